import Derived.Test.YtkfkmnfejeocpaaGreatDoorM31
namespace Go.Proofs.YtkfkmnfejeocpaaGreatDoor
set_option linter.all false
open Go.RowKit Go.Fl
def TA := @List.setIfInBounds_toArray
def TD := @wpAnyH_take
def TE := @AllReadyH.cons
def TF := @AllReadyH.nil
def TG := @wpAnyH_ready
def TB := @List.set_cons_zero
def TC := @List.set_cons_succ
set_option maxRecDepth 100000 in
set_option maxHeartbeats 16000000 in
theorem cuts_walk (haw : AwakeOk) (st sp : Int) (A B : Option Addr) (c d : Nat) (xs : List Nat) (ms : List Mk) (n0 n1 n2 : Nat) (hn0 : n0 < 256) (hn1 : n1 < 256) (hn2 : n2 < 256) (w : World) (haW : Aw w) (hA : Rd w A (flts xs)) (hB : Rd w B (markC ms)) (hca : A = none → c = 0) (hlc : xs.length ≤ c) (hs : shortRB xs.length ms = true) (hrec : recI st sp xs ms = 0) (hl30 : xs.length ≤ 30)
 (hst : 0 ≤ st ∧ st ≤ 100000000) (hsp : 1 ≤ sp ∧ sp ≤ 1000) (pl : Int) (hpl : sp * (xs.length : Int) = pl) (hpl0 : 0 ≤ pl ∧ st + pl ≤ 100000000)
 (o1 o2 lo hi : Nat) (ho1 : (n0 : Int) % ((xs.length : Int) + 1) = (o1 : Int)) (ho2 : (n1 : Int) % ((xs.length : Int) + 1) = (o2 : Int)) (hoo : (o1 ≤ o2 ∧ lo = o1 ∧ hi = o2) ∨ (o2 < o1 ∧ lo = o2 ∧ hi = o1)) (hlh : lo ≤ hi) (hhi : hi ≤ xs.length)
 (pb : Int) (hpb : sp * (lo : Int) = pb) (hpb0 : 0 ≤ pb ∧ st + pb ≤ 100000000)
 (sa sb sc : Int) (xa xb xc xab xbc : List Nat) (ma mb mc mab mbc : List Mk)
 (hCa : ∀ W GA gc GB gd, SlOk W GA gc xs GB ms → xs.length ≤ gc → Calls Tryz.prog 29 #[.agg #[.int .i64 st, .int .i64 sp, .slice GA xs.length gc, .slice GB ms.length gd], .agg #[.int .i64 0, .int .i64 (lo : Int)]] W fun e w' => ∃ CA cc CB cd, e = .returned (.tuple #[.agg #[.int .i64 sa, .int .i64 sp, .slice CA xa.length cc, .slice CB ma.length cd], .int .i64 0]) ∧ w'.ownsRow W.heap.size 27 1 (.slice CA xa.length cc) xa.length (flts xa) ∧ w'.ownsRow W.heap.size 100 2 (.slice CB ma.length cd) ma.length (markC ma) ∧ Below W.heap.size W w')
 (hCb : ∀ W GA gc GB gd, SlOk W GA gc xs GB ms → xs.length ≤ gc → Calls Tryz.prog 29 #[.agg #[.int .i64 st, .int .i64 sp, .slice GA xs.length gc, .slice GB ms.length gd], .agg #[.int .i64 (lo : Int), .int .i64 (hi : Int)]] W fun e w' => ∃ CA cc CB cd, e = .returned (.tuple #[.agg #[.int .i64 sb, .int .i64 sp, .slice CA xb.length cc, .slice CB mb.length cd], .int .i64 0]) ∧ w'.ownsRow W.heap.size 27 1 (.slice CA xb.length cc) xb.length (flts xb) ∧ w'.ownsRow W.heap.size 100 2 (.slice CB mb.length cd) mb.length (markC mb) ∧ Below W.heap.size W w')
 (hCc : ∀ W GA gc GB gd, SlOk W GA gc xs GB ms → xs.length ≤ gc → Calls Tryz.prog 29 #[.agg #[.int .i64 st, .int .i64 sp, .slice GA xs.length gc, .slice GB ms.length gd], .agg #[.int .i64 (hi : Int), .int .i64 (xs.length : Int)]] W fun e w' => ∃ CA cc CB cd, e = .returned (.tuple #[.agg #[.int .i64 sc, .int .i64 sp, .slice CA xc.length cc, .slice CB mc.length cd], .int .i64 0]) ∧ w'.ownsRow W.heap.size 27 1 (.slice CA xc.length cc) xc.length (flts xc) ∧ w'.ownsRow W.heap.size 100 2 (.slice CB mc.length cd) mc.length (markC mc) ∧ Below W.heap.size W w')
 (hJp : ∀ W A1 c1 B1 d1 A2 c2 B2 d2, SlOk W A1 c1 xa B1 ma → SlOk W A2 c2 xb B2 mb → Calls Tryz.prog 32 #[.agg #[.int .i64 sa, .int .i64 sp, .slice A1 xa.length c1, .slice B1 ma.length d1], .agg #[.int .i64 sb, .int .i64 sp, .slice A2 xb.length c2, .slice B2 mb.length d2]] W fun e w' => ∃ CA cc CB cd, e = .returned (.tuple #[.agg #[.int .i64 sa, .int .i64 sp, .slice CA xab.length cc, .slice CB mab.length cd], .int .i64 0]) ∧ w'.ownsRow W.heap.size 27 1 (.slice CA xab.length cc) xab.length (flts xab) ∧ w'.ownsRow W.heap.size 100 2 (.slice CB mab.length cd) mab.length (markC mab) ∧ Below W.heap.size W w')
 (hJq : ∀ W A1 c1 B1 d1 A2 c2 B2 d2, SlOk W A1 c1 xab B1 mab → SlOk W A2 c2 xc B2 mc → Calls Tryz.prog 32 #[.agg #[.int .i64 sa, .int .i64 sp, .slice A1 xab.length c1, .slice B1 mab.length d1], .agg #[.int .i64 sc, .int .i64 sp, .slice A2 xc.length c2, .slice B2 mc.length d2]] W fun e w' => ∃ CA cc CB cd, e = .returned (.tuple #[.agg #[.int .i64 st, .int .i64 sp, .slice CA xs.length cc, .slice CB ms.length cd], .int .i64 0]) ∧ w'.ownsRow W.heap.size 27 1 (.slice CA xs.length cc) xs.length (flts xs) ∧ w'.ownsRow W.heap.size 100 2 (.slice CB ms.length cd) ms.length (markC ms) ∧ Below W.heap.size W w')
 (hJr : ∀ W A1 c1 B1 d1 A2 c2 B2 d2, SlOk W A1 c1 xb B1 mb → SlOk W A2 c2 xc B2 mc → Calls Tryz.prog 32 #[.agg #[.int .i64 sb, .int .i64 sp, .slice A1 xb.length c1, .slice B1 mb.length d1], .agg #[.int .i64 sc, .int .i64 sp, .slice A2 xc.length c2, .slice B2 mc.length d2]] W fun e w' => ∃ CA cc CB cd, e = .returned (.tuple #[.agg #[.int .i64 sb, .int .i64 sp, .slice CA xbc.length cc, .slice CB mbc.length cd], .int .i64 0]) ∧ w'.ownsRow W.heap.size 27 1 (.slice CA xbc.length cc) xbc.length (flts xbc) ∧ w'.ownsRow W.heap.size 100 2 (.slice CB mbc.length cd) mbc.length (markC mbc) ∧ Below W.heap.size W w')
 (hJs : ∀ W A1 c1 B1 d1 A2 c2 B2 d2, SlOk W A1 c1 xa B1 ma → SlOk W A2 c2 xbc B2 mbc → Calls Tryz.prog 32 #[.agg #[.int .i64 sa, .int .i64 sp, .slice A1 xa.length c1, .slice B1 ma.length d1], .agg #[.int .i64 sb, .int .i64 sp, .slice A2 xbc.length c2, .slice B2 mbc.length d2]] W fun e w' => ∃ CA cc CB cd, e = .returned (.tuple #[.agg #[.int .i64 st, .int .i64 sp, .slice CA xs.length cc, .slice CB ms.length cd], .int .i64 0]) ∧ w'.ownsRow W.heap.size 27 1 (.slice CA xs.length cc) xs.length (flts xs) ∧ w'.ownsRow W.heap.size 100 2 (.slice CB ms.length cd) ms.length (markC ms) ∧ Below W.heap.size W w')
 (hJn : lo < hi → ∀ W A1 c1 B1 d1 A2 c2 B2 d2, SlOk W A1 c1 xa B1 ma → SlOk W A2 c2 xc B2 mc → Calls Tryz.prog 32 #[.agg #[.int .i64 sa, .int .i64 sp, .slice A1 xa.length c1, .slice B1 ma.length d1], .agg #[.int .i64 sc, .int .i64 sp, .slice A2 xc.length c2, .slice B2 mc.length d2]] W fun e w' => e = .returned (.tuple #[.agg #[.int .i64 0, .int .i64 0, .slice none 0 0, .slice none 0 0], .int .i64 11]) ∧ Below W.heap.size W w')
 (hsa : sa = st) (hsb : sb = st + sp * (lo : Int)) (hxb : xb.length = hi - lo) (hmm3 : ma.length + mb.length + mc.length = ms.length)
 (hmk : ∀ i (h : i < mb.length), ∃ (k : Nat) (hk : k < ms.length), (ma.length : Int) + (i : Int) = (k : Int) ∧ 0 ≤ mb[i].1 ∧ mb[i].1 < (xb.length : Int) ∧ sb + sp * mb[i].1 = st + sp * (ms[k]'hk).1 ∧ mb[i].2 = (ms[k]'hk).2)
 (sh : Nat) (hsh : (n2 : Int) % 9 = (sh : Int)) (hsh8 : sh ≤ 8) (by' : Int) (hby : 0 ≤ by' ∧ by' ≤ (sh : Int))
 (hFl : ∀ W, Rd W A (flts xs) → Calls Tryz.prog 15 #[.slice A xs.length c] W fun e w' => ∃ GA gc, e = .returned (.slice GA xs.length gc) ∧ Rd w' GA (flts xs) ∧ Below W.heap.size W w')
 (hAl : 0 < xs.length → ∀ W GA gc LA lc, Rd W GA (flts xs) → Rd W LA (flts (List.replicate sh 0 ++ xs)) → Calls Tryz.prog 35 #[.slice GA xs.length gc, .slice LA (sh + xs.length) lc, .int .i64 8, .int .i64 (xs.length : Int)] W fun e w' => e = .returned (.tuple #[.int .i64 by', .agg #[.int .i64 0, .int .i64 1], .int .i64 0]) ∧ Below W.heap.size W w')
 (hsf : sameF xs xs = true)
 (hxxa : xa.length ≤ 1000)
 (hxxb : xb.length ≤ 1000)
 (hxxc : xc.length ≤ 1000)
 (hxxab : xab.length ≤ 1000)
 (hxxbc : xbc.length ≤ 1000)
 (hmms : ms.length ≤ 16)
 (hmma : ma.length ≤ 16)
 (hmmb : mb.length ≤ 16)
 (hmmc : mc.length ≤ 16)
 (hmmab : mab.length ≤ 16)
 (hmmbc : mbc.length ≤ 16) :
 Calls Tryz.prog 5 #[.agg #[.int .i64 st, .int .i64 sp, .slice A xs.length c, .slice B ms.length d], .agg #[.int .u8 (n0 : Int), .int .u8 (n1 : Int), .int .u8 (n2 : Int)]] w fun e w' => e = .returned (.bool true) ∧ Below w.heap.size w w' := by
 have HS0 := Lib.hid (CpS.new (L0 := [.int .i64 st, .int .i64 sp, .slice A xs.length c, .slice B ms.length d]) (L1 := [.int .u8 (n0 : Int), .int .u8 (n1 : Int), .int .u8 (n2 : Int)]) hA hB haW)
 have HSH : Hid (∀ W, Rd W B (markC ms) → Calls Tryz.prog 27 #[.agg #[.int .i64 st, .int .i64 sp, .slice A xs.length c, .slice B ms.length d]] W fun e w' => e = .returned (.bool true) ∧ Below W.heap.size W w') := fun W h => by
  have k := shortRecording_any st sp A B xs.length c ms.length d ms W h rfl (by omega) (by omega)
  rw [hs] at k; exact k
 have HCR : Hid (∀ W, Rd W A (flts xs) → Rd W B (markC ms) → Calls Tryz.prog 28 #[.agg #[.int .i64 st, .int .i64 sp, .slice A xs.length c, .slice B ms.length d]] W fun e w' => e = .returned (.int .i64 0) ∧ Below W.heap.size W w') := fun W h1 h2 => by
  have k := checkRecordingR_any st sp A B xs.length c ms.length d xs ms W h1 h2 rfl rfl hlc (by omega) (by omega)
  rw [hrec] at k; exact k
 have HCA := Lib.hid hca; have HPL := Lib.hid hpl; have HPB := Lib.hid hpb; have HO1 := Lib.hid ho1; have HO2 := Lib.hid ho2; have HOO := Lib.hid hoo
 have HCa := Lib.hid hCa; have HCb := Lib.hid hCb; have HCc := Lib.hid hCc; have HJp := Lib.hid hJp; have HJq := Lib.hid hJq; have HJr := Lib.hid hJr; have HJs := Lib.hid hJs; have HJn := Lib.hid hJn
 have HSA := Lib.hid hsa; have HSB := Lib.hid hsb; have HXB := Lib.hid hxb; have HM3 := Lib.hid hmm3; have HMK := Lib.hid hmk; have HSF := Lib.hid hsf; have HSHI := Lib.hid hsh; have HFL := Lib.hid hFl; have HALI := Lib.hid hAl
 have HXxs : Hid (xs.length ≤ 1000000) := by unfold Hid; omega
 have HXxa : Hid (xa.length ≤ 1000000) := Nat.le_trans hxxa (by decide); have HXxb : Hid (xb.length ≤ 1000000) := Nat.le_trans hxxb (by decide); have HXxc : Hid (xc.length ≤ 1000000) := Nat.le_trans hxxc (by decide); have HXxab : Hid (xab.length ≤ 1000000) := Nat.le_trans hxxab (by decide); have HXxbc : Hid (xbc.length ≤ 1000000) := Nat.le_trans hxxbc (by decide)
 have HMms : Hid (ms.length ≤ 1000000) := Nat.le_trans hmms (by decide); have HMma : Hid (ma.length ≤ 1000000) := Nat.le_trans hmma (by decide); have HMmb : Hid (mb.length ≤ 1000000) := Nat.le_trans hmmb (by decide); have HMmc : Hid (mc.length ≤ 1000000) := Nat.le_trans hmmc (by decide); have HMmab : Hid (mab.length ≤ 1000000) := Nat.le_trans hmmab (by decide); have HMmbc : Hid (mbc.length ≤ 1000000) := Nat.le_trans hmmbc (by decide)
 clear haW hA hB hca hs hrec hpl hpb ho1 ho2 hoo hCa hCb hCc hJp hJq hJr hJs hJn hsa hsb hxb hmm3 hmk hsf hlc hsh hFl hAl
 go_enter Tryz.func5, Tryz.ntmps5
 go_upto_region 1 with fail
 refine genR (CpS w A B xs ms [.int .i64 st, .int .i64 sp, .slice A xs.length c, .slice B ms.length d] [.int .u8 (n0 : Int), .int .u8 (n1 : Int), .int .u8 (n2 : Int)]) HS0.out ?_
 clear HS0
 intro W1 s1
 have HS1 := Lib.hid s1
 clear s1
 go_cut [58] from 33 to 58 (fun s58 wx => s58 = .bool false ∧ CpS w A B xs ms [.int .i64 st, .int .i64 sp, .slice A xs.length c, .slice B ms.length d] [.int .u8 (n0 : Int), .int .u8 (n1 : Int), .int .u8 (n2 : Int)] wx)
 case first => as_aux_lemma =>
  have hpl' := HPL.out
  go_wp2_with (first
   | (refine wpList_load_row rfl 85 _ rfl w.heap.size rfl 85 #[.int .i64 st, .int .i64 sp, .slice A xs.length c, .slice B ms.length d] (0, 0) _ HS1.out.1 Tryz.underlying85 rfl ?_ ?_; (kernel_rfl))
   | (go_at_call 27; refine (HSH.out _ HS1.out.2.2.2.1).mono ?_; rintro e w1 ⟨rfl, hb1⟩; have HS2 := Lib.hid (HS1.out.keep hb1); clear hb1; have p0 := HS2.out.1.cell 0; have p1 := HS2.out.1.cell 1; have p2 := HS2.out.1.cell 2; have p3 := HS2.out.1.cell 3; simp only [List.getElem?_cons_succ, List.getElem?_cons_zero] at p0 p1 p2 p3)
   | (go_at_call 28; refine (HCR.out _ HS2.out.2.2.1 HS2.out.2.2.2.1).mono ?_; rintro e w2 ⟨rfl, hb2⟩; have HS3 := Lib.hid (HS2.out.keep hb2); clear hb2; have q0 := HS3.out.1.cell 0; have q1 := HS3.out.1.cell 1; have q2 := HS3.out.1.cell 2; have q3 := HS3.out.1.cell 3; simp only [List.getElem?_cons_succ, List.getElem?_cons_zero] at q0 q1 q2 q3))
  go_meet
  exact ⟨by rw [decide_eq_false (by omega), decide_eq_false (by omega)]; rfl, HS3.out⟩
 case rest =>
 obtain ⟨rfl, s2⟩ := hcut
 have HS := Lib.hid s2
 clear s2 HS1 HSH HCR
 obtain ⟨W3, hW⟩ : ∃ W3 : World, W3 = wc := ⟨_, rfl⟩
 subst hW
 go_upto_region 3 with fail
 go_cut [5, 6] from 60 to 75 (fun s5 s6 wx => s5 = .int .i64 o1 ∧ s6 = .int .i64 o2 ∧ CpS w A B xs ms [.int .i64 st, .int .i64 sp, .slice A xs.length c, .slice B ms.length d] [.int .u8 (n0 : Int), .int .u8 (n1 : Int), .int .u8 (n2 : Int)] wx)
 case first => as_aux_lemma =>
  have h1' := HO1.out; have h2' := HO2.out
  have c2 := HS.out.1.cell 2; have d0 := HS.out.2.1.cell 0; have d1 := HS.out.2.1.cell 1
  simp only [List.getElem?_cons_succ, List.getElem?_cons_zero] at c2 d0 d1
  go_quiet (fail)
  go_wp2
  go_meet
  exact ⟨by first | rfl | exact congrArg (Value.int .i64) h1', by first | rfl | exact congrArg (Value.int .i64) h2', HS.out.keep (below_drewN (Below.refl _ _) _)⟩
 case rest =>
 obtain ⟨rfl, rfl, s2⟩ := hcut
 have HS' := Lib.hid s2
 clear s2 HS
 have HS := HS'
 clear HS'
 obtain ⟨W4, hW⟩ : ∃ W4 : World, W4 = wc := ⟨_, rfl⟩
 subst hW
 go_upto_region 4 with fail
 go_cut [7, 8] from 76 to 81 (fun s7 s8 wx => s7 = .int .i64 lo ∧ s8 = .int .i64 hi ∧ CpS w A B xs ms [.int .i64 st, .int .i64 sp, .slice A xs.length c, .slice B ms.length d] [.int .u8 (n0 : Int), .int .u8 (n1 : Int), .int .u8 (n2 : Int)] wx)
 case first => as_aux_lemma =>
  rcases HOO.out with ⟨g1, rfl, rfl⟩ | ⟨g1, rfl, rfl⟩
  · have k1 : ¬ (hi : Int) < (lo : Int) := by omega
    go_wp2
    go_meet
    exact ⟨by first | rfl | (congr 1; omega), by first | rfl | (congr 1; omega), HS.out⟩
  · have k1 : (lo : Int) < (hi : Int) := by omega
    go_wp2
    go_meet
    exact ⟨by first | rfl | (congr 1; omega), by first | rfl | (congr 1; omega), HS.out⟩
 case rest =>
 obtain ⟨rfl, rfl, s2⟩ := hcut
 have HS' := Lib.hid s2
 clear s2 HS
 have HS := HS'
 clear HS' HO1 HO2 HOO
 obtain ⟨W5, hW⟩ : ∃ W5 : World, W5 = wc := ⟨_, rfl⟩
 subst hW
 go_upto_region 5 with fail
 go_cut [9, 10] from 83 to 89 (fun s9 s10 wx => ∃ (g : Nat) (CA : Option Addr) (cc : Nat) (CB : Option Addr) (cd : Nat), s9 = .pointer (some ⟨g, 0, none⟩) ∧ s10 = .int .i64 0 ∧ Row wx g 91 [.int .i64 sa, .int .i64 sp, .slice CA xa.length cc, .slice CB ma.length cd] ∧ SlOk wx CA cc xa CB ma ∧ Below W5.heap.size W5 wx)
 case first => as_aux_lemma =>
  go_wp2_with (first | (refine wpList_load_row rfl 85 _ rfl w.heap.size rfl 85 #[.int .i64 st, .int .i64 sp, .slice A xs.length c, .slice B ms.length d] (0, 0) _ HS.out.1 Tryz.underlying85 rfl ?_ ?_; (kernel_rfl)) | (go_at_call 30; refine (given_sl st sp A B c d xs ms _ ⟨HS.out.2.2.1, HS.out.2.2.2.1, HCA.out⟩ HXxs.out HMms.out).mono ?_; rintro e v1 ⟨GA, gc, GB, gd, rfl, hs1, hg1, hb1⟩; have HL1 := Lib.hid hs1; have HG1 := Lib.hid hg1; have HB1 := Lib.hid hb1; clear hs1 hg1 hb1) | (go_at_call 31; refine (to_ok _ _ _).mono ?_; rintro e v2 ⟨rfl, hb2⟩; have HL2 := Lib.hid (HL1.out.below hb2); have HB2 := Lib.hid (HB1.out.trans (hb2.mono HB1.out.size)); clear hb2) | (go_at_call 29; refine (HCa.out _ _ _ _ _ HL2.out HG1.out).mono ?_; rintro e v9 ⟨CA, cc, CB, cd, rfl, ho9, hu9, hb9⟩; have HO9 := Lib.hid ho9; have HU9 := Lib.hid hu9; have HB9 := Lib.hid (HB2.out.trans (hb9.mono HB2.out.size)); clear ho9 hu9 hb9) | (refine wpList_store_row rfl 91 _ _ rfl v9.heap.size #[.int .i64 sa, .int .i64 sp, .slice CA xa.length cc, .slice CB ma.length cd] rfl rfl 91 _ (Row.new v9 91 zero4) ?_ ?_ ?_ ?_; (kernel_rfl); (rfl); (simp [Value.oneCell'])))
  go_meet
  have k1 := owns_other v9.heap.size (HO9.out.alloc (.cells zero4.toArray 91)) (fun j hj hne => setRow_other _ _ [.int .i64 sa, .int .i64 sp, .slice CA xa.length cc, .slice CB ma.length cd].toArray _ hne) (fun e => by have := (HO9.out.lt _ e).2; omega)
  have k2 := owns_other v9.heap.size (HU9.out.alloc (.cells zero4.toArray 91)) (fun j hj hne => setRow_other _ _ [.int .i64 sa, .int .i64 sp, .slice CA xa.length cc, .slice CB ma.length cd].toArray _ hne) (fun e => by have := (HU9.out.lt _ e).2; omega)
  exact ⟨_, CA, cc, CB, cd, rfl, rfl, (Row.new v9 91 zero4).setRow _, ⟨owned_rd k1, owned_rd k2, (own_cap k1).2⟩, Below.setRow (HB9.out.alloc HB9.out.size _) HB9.out.size _⟩
 case rest =>
 obtain ⟨ga, Aa, ca, Ba, da, rfl, rfl, rk, sk, hb⟩ := hcut
 have HRa0 : Hid (RcR sp wc ga sa xa ma Aa Ba ca da) := ⟨rk, sk⟩
 clear rk sk
 have HS' := Lib.hid (HS.out.keep hb)
 clear HS 
 have HS := HS'; 
 clear HS' 
 have HRa := HRa0
 clear HRa0 hb
 obtain ⟨W5a, hW⟩ : ∃ W5a : World, W5a = wc := ⟨_, rfl⟩
 subst hW
 go_upto_region 6 with fail
 go_cut [11, 12] from 91 to 98 (fun s11 s12 wx => ∃ (g : Nat) (CA : Option Addr) (cc : Nat) (CB : Option Addr) (cd : Nat), s11 = .pointer (some ⟨g, 0, none⟩) ∧ s12 = .int .i64 0 ∧ Row wx g 91 [.int .i64 sb, .int .i64 sp, .slice CA xb.length cc, .slice CB mb.length cd] ∧ SlOk wx CA cc xb CB mb ∧ Below W5a.heap.size W5a wx)
 case first => as_aux_lemma =>
  go_wp2_with (first | (refine wpList_load_row rfl 85 _ rfl w.heap.size rfl 85 #[.int .i64 st, .int .i64 sp, .slice A xs.length c, .slice B ms.length d] (0, 0) _ HS.out.1 Tryz.underlying85 rfl ?_ ?_; (kernel_rfl)) | (go_at_call 30; refine (given_sl st sp A B c d xs ms _ ⟨HS.out.2.2.1, HS.out.2.2.2.1, HCA.out⟩ HXxs.out HMms.out).mono ?_; rintro e v1 ⟨GA, gc, GB, gd, rfl, hs1, hg1, hb1⟩; have HL1 := Lib.hid hs1; have HG1 := Lib.hid hg1; have HB1 := Lib.hid hb1; clear hs1 hg1 hb1) | (go_at_call 31; refine (to_ok _ _ _).mono ?_; rintro e v2 ⟨rfl, hb2⟩; have HL2 := Lib.hid (HL1.out.below hb2); have HB2 := Lib.hid (HB1.out.trans (hb2.mono HB1.out.size)); clear hb2) | (go_at_call 29; refine (HCb.out _ _ _ _ _ HL2.out HG1.out).mono ?_; rintro e v9 ⟨CA, cc, CB, cd, rfl, ho9, hu9, hb9⟩; have HO9 := Lib.hid ho9; have HU9 := Lib.hid hu9; have HB9 := Lib.hid (HB2.out.trans (hb9.mono HB2.out.size)); clear ho9 hu9 hb9) | (refine wpList_store_row rfl 91 _ _ rfl v9.heap.size #[.int .i64 sb, .int .i64 sp, .slice CA xb.length cc, .slice CB mb.length cd] rfl rfl 91 _ (Row.new v9 91 zero4) ?_ ?_ ?_ ?_; (kernel_rfl); (rfl); (simp [Value.oneCell'])))
  go_meet
  have k1 := owns_other v9.heap.size (HO9.out.alloc (.cells zero4.toArray 91)) (fun j hj hne => setRow_other _ _ [.int .i64 sb, .int .i64 sp, .slice CA xb.length cc, .slice CB mb.length cd].toArray _ hne) (fun e => by have := (HO9.out.lt _ e).2; omega)
  have k2 := owns_other v9.heap.size (HU9.out.alloc (.cells zero4.toArray 91)) (fun j hj hne => setRow_other _ _ [.int .i64 sb, .int .i64 sp, .slice CA xb.length cc, .slice CB mb.length cd].toArray _ hne) (fun e => by have := (HU9.out.lt _ e).2; omega)
  exact ⟨_, CA, cc, CB, cd, rfl, rfl, (Row.new v9 91 zero4).setRow _, ⟨owned_rd k1, owned_rd k2, (own_cap k1).2⟩, Below.setRow (HB9.out.alloc HB9.out.size _) HB9.out.size _⟩
 case rest =>
 obtain ⟨gb, Ab, cb, Bb, db, rfl, rfl, rk, sk, hb⟩ := hcut
 have HRb0 : Hid (RcR sp wc gb sb xb mb Ab Bb cb db) := ⟨rk, sk⟩
 clear rk sk
 have HS' := Lib.hid (HS.out.keep hb)
 have HRa' := Lib.hid (HRa.out.below hb)
 clear HS HRa
 have HS := HS'; have HRa := HRa'
 clear HS' HRa'
 have HRb := HRb0
 clear HRb0 hb
 obtain ⟨W5b, hW⟩ : ∃ W5b : World, W5b = wc := ⟨_, rfl⟩
 subst hW
 go_upto_region 7 with fail
 go_cut [13, 14] from 100 to 109 (fun s13 s14 wx => ∃ (g : Nat) (CA : Option Addr) (cc : Nat) (CB : Option Addr) (cd : Nat), s13 = .pointer (some ⟨g, 0, none⟩) ∧ s14 = .int .i64 0 ∧ Row wx g 91 [.int .i64 sc, .int .i64 sp, .slice CA xc.length cc, .slice CB mc.length cd] ∧ SlOk wx CA cc xc CB mc ∧ Below W5b.heap.size W5b wx)
 case first => as_aux_lemma =>
  refine wp_region_held_drew (S := fun V => Below W5b.heap.size W5b V) (by kernel_rfl) ?_ (fun hHeld => ?_)
  · exact (Below.refl _ _).drew
  refine TD (i := 0) (oi := ⟨some 100, _, _, _, _, _⟩) (v := .agg #[.int .i64 st, .int .i64 sp, .slice A xs.length c, .slice B ms.length d]) rfl (by kernel_rfl) (by kernel_rfl) (by kernel_rfl) (fun _ _ _ h => h) (Or.inl ⟨by kernel_rfl, fun V hV => ex_row2 85 _ rfl w.heap.size rfl 85 [.int .i64 st, .int .i64 sp, .slice A xs.length c, .slice B ms.length d] _ Tryz.underlying85 rfl (by kernel_rfl) (HS.out.keep hV).1⟩) hHeld ?_
  try simp only [Act.put, TA, TB, TC]
  refine TD (i := 2) (oi := ⟨some 102, _, _, _, _, _⟩) (v := ?_) rfl (by kernel_rfl) (by kernel_rfl) (by kernel_rfl) (fun _ _ _ h => h) (Or.inl ⟨by kernel_rfl, ?_⟩) hHeld ?_
  rotate_left
  · intro w1 hSw; (try dsimp only at hSw); go_simp <;> with_reducible rfl
  try simp only [Act.put, TA, TB, TC]
  refine TD (i := 3) (oi := ⟨some 103, _, _, _, _, _⟩) (v := ?_) rfl (by kernel_rfl) (by kernel_rfl) (by kernel_rfl) (fun _ _ _ h => h) (Or.inl ⟨by kernel_rfl, ?_⟩) hHeld ?_
  rotate_left
  · intro w1 hSw; (try dsimp only at hSw); go_simp <;> with_reducible rfl
  try simp only [Act.put, TA, TB, TC]
  refine TD (i := 4) (oi := ⟨some 104, _, _, _, _, _⟩) (v := ?_) rfl (by kernel_rfl) (by kernel_rfl) (by kernel_rfl) (fun _ _ _ h => h) (Or.inl ⟨by kernel_rfl, ?_⟩) hHeld ?_
  rotate_left
  · intro w1 hSw; (try dsimp only at hSw); have c2 := (HS.out.keep hSw).1.cell 2; simp only [List.getElem?_cons_succ, List.getElem?_cons_zero] at c2; go_simp <;> with_reducible rfl
  try simp only [Act.put, TA, TB, TC]
  refine TD (i := 5) (oi := ⟨some 105, _, _, _, _, _⟩) (v := ?_) rfl (by kernel_rfl) (by kernel_rfl) (by kernel_rfl) (fun _ _ _ h => h) (Or.inl ⟨by kernel_rfl, ?_⟩) hHeld ?_
  rotate_left
  · intro w1 hSw; (try dsimp only at hSw); go_simp <;> with_reducible rfl
  try simp only [Act.put, TA, TB, TC]
  refine TG (rs := [1, 11]) (by kernel_rfl) (by simp) ?_
  refine TE rfl (fun K hK => ?_) (TE rfl (fun K hK => ?_) (TF))
  ·
   go_simp
   go_at_call 30
   refine (given_sl st sp A B c d xs ms _ ⟨(HS.out.keep hHeld).2.2.1, (HS.out.keep hHeld).2.2.2.1, HCA.out⟩ HXxs.out HMms.out).mono ?_
   rintro e v1 ⟨A1, c1, B1, d1, rfl, hs1, hg1, hb1⟩
   have zv1 := (hHeld.trans (hb1.mono hHeld.size)).size
   try go_simp
   refine hK.out _ _ ?_ (fun hHeld => ?_)
   · exact hHeld.trans (hb1.mono hHeld.size)
   clear hK K
   try simp only [Act.put, TA, TB, TC]
   refine TG (rs := [6, 11]) (by kernel_rfl) (by simp) ?_
   refine TE rfl (fun K hK => ?_) (TE rfl (fun K hK => ?_) (TF))
   ·
    go_simp
    go_at_call 31
    refine (to_ok _ _ _).mono ?_
    rintro e v6 ⟨rfl, hb6⟩
    have zv6 := (hHeld.trans (hb6.mono hHeld.size)).size
    try go_simp
    refine hK.out _ _ ?_ (fun hHeld => ?_)
    · exact hHeld.trans (hb6.mono hHeld.size)
    clear hK K
    try simp only [Act.put, TA, TB, TC]
    refine TG (rs := [7, 11]) (by kernel_rfl) (by simp) ?_
    refine TE rfl (fun K hK => ?_) (TE rfl (fun K hK => ?_) (TF))
    ·
     go_simp
     go_at_call 29
     refine (HCc.out _ _ _ _ _ ((hs1).below hb6) hg1).mono ?_
     rintro e v9 ⟨CA, cc, CB, cd, rfl, ho9, hu9, hb9⟩
     have zv9 := (hHeld.trans (hb9.mono hHeld.size)).size
     try go_simp
     refine hK.out _ _ ?_ (fun hHeld => ?_)
     · exact hHeld.trans (hb9.mono hHeld.size)
     clear hK K
     try simp only [Act.put, TA, TB, TC]
     refine TD (i := 8) (oi := ⟨some 99, _, _, _, _, _⟩) (v := ?_) rfl (by kernel_rfl) (by kernel_rfl) (by kernel_rfl) (fun _ _ _ h => h) (Or.inl ⟨by kernel_rfl, ?_⟩) hHeld ?_
     rotate_left
     · intro w1 hSw; (try dsimp only at hSw); go_simp <;> with_reducible rfl
     try simp only [Act.put, TA, TB, TC]
     refine TD (i := 9) (oi := ⟨some 108, _, _, _, _, _⟩) (v := ?_) rfl (by kernel_rfl) (by kernel_rfl) (by kernel_rfl) (fun _ _ _ h => h) (Or.inl ⟨by kernel_rfl, ?_⟩) hHeld ?_
     rotate_left
     · intro w1 hSw; (try dsimp only at hSw); go_simp <;> with_reducible rfl
     try simp only [Act.put, TA, TB, TC]
     refine TD (i := 10) (oi := ⟨some 109, _, _, _, _, _⟩) (v := ?_) rfl (by kernel_rfl) (by kernel_rfl) (by kernel_rfl) (fun _ _ _ h => h) (Or.inl ⟨by kernel_rfl, ?_⟩) hHeld ?_
     rotate_left
     · intro w1 hSw; (try dsimp only at hSw); go_simp <;> with_reducible rfl
     try simp only [Act.put, TA, TB, TC]
     refine TG (rs := [11]) (by kernel_rfl) (by simp) ?_
     refine TE rfl (fun K hK => ?_) (TF)
     go_simp
     refine hK.out _ _ ?_ (fun hHeld => ?_)
     · exact hHeld.alloc hHeld.size _
     clear hK K
     try simp only [Act.put, TA, TB, TC]
     refine TG (rs := [12]) (by kernel_rfl) (by simp) ?_
     refine TE rfl (fun K hK => ?_) (TF)
     have hz := Row.new v9 91 zero4
     have hg : W5b.heap.size ≤ v9.heap.size := zv9
     refine step_store_row rfl 91 _ _ rfl v9.heap.size [.int .i64 sc, .int .i64 sp, .slice CA xc.length cc, .slice CB mc.length cd] rfl rfl 91 zero4 hz (by kernel_rfl) rfl (by simp [Value.oneCell']) ?_
     refine hK.out _ _ ?_ (fun hHeld => ?_)
     · exact Below.setRow hHeld hg _
     clear hK K
     try simp only [Act.put, TA, TB, TC]
     refine TD (i := 13) (oi := ⟨some 14, _, _, _, _, _⟩) (v := ?_) rfl (by kernel_rfl) (by kernel_rfl) (by kernel_rfl) (fun _ _ _ h => h) (Or.inl ⟨by kernel_rfl, ?_⟩) hHeld ?_
     rotate_left
     · intro w1 hSw; (try dsimp only at hSw); go_simp <;> with_reducible rfl
     try simp only [Act.put, TA, TB, TC]
     refine wpAnyH_done (by kernel_rfl) ?_ _
     go_wp2_with fail
     go_meet
     exact ⟨_, CA, cc, CB, cd, rfl, rfl, hz.setRow _, ⟨owned_rd (owns_other v9.heap.size (ho9.alloc _) (fun j hj hne => setRow_other _ _ _ _ hne) (fun e => by have := (ho9.lt _ e).2; omega)), owned_rd (owns_other v9.heap.size (hu9.alloc _) (fun j hj hne => setRow_other _ _ _ _ hne) (fun e => by have := (hu9.lt _ e).2; omega)), (own_cap ho9).2⟩, hHeld⟩
    ·
     go_simp
     refine hK.out _ _ ?_ (fun hHeld => ?_)
     · exact hHeld.alloc hHeld.size _
     clear hK K
     try simp only [Act.put, TA, TB, TC]
     refine TG (rs := [7]) (by kernel_rfl) (by simp) ?_
     refine TE rfl (fun K hK => ?_) (TF)
     go_simp
     go_at_call 29
     refine (HCc.out _ _ _ _ _ (((hs1).below hb6).below ((Below.refl _ _).alloc (Nat.le_refl _) _)) hg1).mono ?_
     rintro e v9 ⟨CA, cc, CB, cd, rfl, ho9, hu9, hb9⟩
     have zv9 := (hHeld.trans (hb9.mono hHeld.size)).size
     try go_simp
     refine hK.out _ _ ?_ (fun hHeld => ?_)
     · exact hHeld.trans (hb9.mono hHeld.size)
     clear hK K
     try simp only [Act.put, TA, TB, TC]
     refine TD (i := 8) (oi := ⟨some 99, _, _, _, _, _⟩) (v := ?_) rfl (by kernel_rfl) (by kernel_rfl) (by kernel_rfl) (fun _ _ _ h => h) (Or.inl ⟨by kernel_rfl, ?_⟩) hHeld ?_
     rotate_left
     · intro w1 hSw; (try dsimp only at hSw); go_simp <;> with_reducible rfl
     try simp only [Act.put, TA, TB, TC]
     refine TD (i := 9) (oi := ⟨some 108, _, _, _, _, _⟩) (v := ?_) rfl (by kernel_rfl) (by kernel_rfl) (by kernel_rfl) (fun _ _ _ h => h) (Or.inl ⟨by kernel_rfl, ?_⟩) hHeld ?_
     rotate_left
     · intro w1 hSw; (try dsimp only at hSw); go_simp <;> with_reducible rfl
     try simp only [Act.put, TA, TB, TC]
     refine TD (i := 10) (oi := ⟨some 109, _, _, _, _, _⟩) (v := ?_) rfl (by kernel_rfl) (by kernel_rfl) (by kernel_rfl) (fun _ _ _ h => h) (Or.inl ⟨by kernel_rfl, ?_⟩) hHeld ?_
     rotate_left
     · intro w1 hSw; (try dsimp only at hSw); go_simp <;> with_reducible rfl
     try simp only [Act.put, TA, TB, TC]
     refine TG (rs := [12]) (by kernel_rfl) (by simp) ?_
     refine TE rfl (fun K hK => ?_) (TF)
     have hz := (Row.new v6 91 zero4).old hb9
     have hg : W5b.heap.size ≤ v6.heap.size := zv6
     refine step_store_row rfl 91 _ _ rfl v6.heap.size [.int .i64 sc, .int .i64 sp, .slice CA xc.length cc, .slice CB mc.length cd] rfl rfl 91 zero4 hz (by kernel_rfl) rfl (by simp [Value.oneCell']) ?_
     refine hK.out _ _ ?_ (fun hHeld => ?_)
     · exact Below.setRow hHeld hg _
     clear hK K
     try simp only [Act.put, TA, TB, TC]
     refine TD (i := 13) (oi := ⟨some 14, _, _, _, _, _⟩) (v := ?_) rfl (by kernel_rfl) (by kernel_rfl) (by kernel_rfl) (fun _ _ _ h => h) (Or.inl ⟨by kernel_rfl, ?_⟩) hHeld ?_
     rotate_left
     · intro w1 hSw; (try dsimp only at hSw); go_simp <;> with_reducible rfl
     try simp only [Act.put, TA, TB, TC]
     refine wpAnyH_done (by kernel_rfl) ?_ _
     go_wp2_with fail
     go_meet
     exact ⟨_, CA, cc, CB, cd, rfl, rfl, hz.setRow _, ⟨owned_rd (owns_far ho9 _ _ (by  (simp ) <;> omega) (Nat.zero_le _)), owned_rd (owns_far hu9 _ _ (by  (simp ) <;> omega) (Nat.zero_le _)), (own_cap ho9).2⟩, hHeld⟩
   ·
    go_simp
    refine hK.out _ _ ?_ (fun hHeld => ?_)
    · exact hHeld.alloc hHeld.size _
    clear hK K
    try simp only [Act.put, TA, TB, TC]
    refine TG (rs := [6]) (by kernel_rfl) (by simp) ?_
    refine TE rfl (fun K hK => ?_) (TF)
    go_simp
    go_at_call 31
    refine (to_ok _ _ _).mono ?_
    rintro e v6 ⟨rfl, hb6⟩
    have zv6 := (hHeld.trans (hb6.mono hHeld.size)).size
    try go_simp
    refine hK.out _ _ ?_ (fun hHeld => ?_)
    · exact hHeld.trans (hb6.mono hHeld.size)
    clear hK K
    try simp only [Act.put, TA, TB, TC]
    refine TG (rs := [7]) (by kernel_rfl) (by simp) ?_
    refine TE rfl (fun K hK => ?_) (TF)
    go_simp
    go_at_call 29
    refine (HCc.out _ _ _ _ _ (((hs1).below ((Below.refl _ _).alloc (Nat.le_refl _) _)).below hb6) hg1).mono ?_
    rintro e v9 ⟨CA, cc, CB, cd, rfl, ho9, hu9, hb9⟩
    have zv9 := (hHeld.trans (hb9.mono hHeld.size)).size
    try go_simp
    refine hK.out _ _ ?_ (fun hHeld => ?_)
    · exact hHeld.trans (hb9.mono hHeld.size)
    clear hK K
    try simp only [Act.put, TA, TB, TC]
    refine TD (i := 8) (oi := ⟨some 99, _, _, _, _, _⟩) (v := ?_) rfl (by kernel_rfl) (by kernel_rfl) (by kernel_rfl) (fun _ _ _ h => h) (Or.inl ⟨by kernel_rfl, ?_⟩) hHeld ?_
    rotate_left
    · intro w1 hSw; (try dsimp only at hSw); go_simp <;> with_reducible rfl
    try simp only [Act.put, TA, TB, TC]
    refine TD (i := 9) (oi := ⟨some 108, _, _, _, _, _⟩) (v := ?_) rfl (by kernel_rfl) (by kernel_rfl) (by kernel_rfl) (fun _ _ _ h => h) (Or.inl ⟨by kernel_rfl, ?_⟩) hHeld ?_
    rotate_left
    · intro w1 hSw; (try dsimp only at hSw); go_simp <;> with_reducible rfl
    try simp only [Act.put, TA, TB, TC]
    refine TD (i := 10) (oi := ⟨some 109, _, _, _, _, _⟩) (v := ?_) rfl (by kernel_rfl) (by kernel_rfl) (by kernel_rfl) (fun _ _ _ h => h) (Or.inl ⟨by kernel_rfl, ?_⟩) hHeld ?_
    rotate_left
    · intro w1 hSw; (try dsimp only at hSw); go_simp <;> with_reducible rfl
    try simp only [Act.put, TA, TB, TC]
    refine TG (rs := [12]) (by kernel_rfl) (by simp) ?_
    refine TE rfl (fun K hK => ?_) (TF)
    have hz := ((Row.new v1 91 zero4).old hb6).old hb9
    have hg : W5b.heap.size ≤ v1.heap.size := zv1
    refine step_store_row rfl 91 _ _ rfl v1.heap.size [.int .i64 sc, .int .i64 sp, .slice CA xc.length cc, .slice CB mc.length cd] rfl rfl 91 zero4 hz (by kernel_rfl) rfl (by simp [Value.oneCell']) ?_
    refine hK.out _ _ ?_ (fun hHeld => ?_)
    · exact Below.setRow hHeld hg _
    clear hK K
    try simp only [Act.put, TA, TB, TC]
    refine TD (i := 13) (oi := ⟨some 14, _, _, _, _, _⟩) (v := ?_) rfl (by kernel_rfl) (by kernel_rfl) (by kernel_rfl) (fun _ _ _ h => h) (Or.inl ⟨by kernel_rfl, ?_⟩) hHeld ?_
    rotate_left
    · intro w1 hSw; (try dsimp only at hSw); go_simp <;> with_reducible rfl
    try simp only [Act.put, TA, TB, TC]
    refine wpAnyH_done (by kernel_rfl) ?_ _
    go_wp2_with fail
    go_meet
    exact ⟨_, CA, cc, CB, cd, rfl, rfl, hz.setRow _, ⟨owned_rd (owns_far ho9 _ _ (by have q0 := hb6.size; (simp at q0 ⊢) <;> omega) (Nat.zero_le _)), owned_rd (owns_far hu9 _ _ (by have q0 := hb6.size; (simp at q0 ⊢) <;> omega) (Nat.zero_le _)), (own_cap ho9).2⟩, hHeld⟩
  ·
   go_simp
   refine hK.out _ _ ?_ (fun hHeld => ?_)
   · exact hHeld.alloc hHeld.size _
   clear hK K
   try simp only [Act.put, TA, TB, TC]
   refine TG (rs := [1]) (by kernel_rfl) (by simp) ?_
   refine TE rfl (fun K hK => ?_) (TF)
   go_simp
   go_at_call 30
   refine (given_sl st sp A B c d xs ms _ ⟨(HS.out.keep hHeld).2.2.1, (HS.out.keep hHeld).2.2.2.1, HCA.out⟩ HXxs.out HMms.out).mono ?_
   rintro e v1 ⟨A1, c1, B1, d1, rfl, hs1, hg1, hb1⟩
   have zv1 := (hHeld.trans (hb1.mono hHeld.size)).size
   try go_simp
   refine hK.out _ _ ?_ (fun hHeld => ?_)
   · exact hHeld.trans (hb1.mono hHeld.size)
   clear hK K
   try simp only [Act.put, TA, TB, TC]
   refine TG (rs := [6]) (by kernel_rfl) (by simp) ?_
   refine TE rfl (fun K hK => ?_) (TF)
   go_simp
   go_at_call 31
   refine (to_ok _ _ _).mono ?_
   rintro e v6 ⟨rfl, hb6⟩
   have zv6 := (hHeld.trans (hb6.mono hHeld.size)).size
   try go_simp
   refine hK.out _ _ ?_ (fun hHeld => ?_)
   · exact hHeld.trans (hb6.mono hHeld.size)
   clear hK K
   try simp only [Act.put, TA, TB, TC]
   refine TG (rs := [7]) (by kernel_rfl) (by simp) ?_
   refine TE rfl (fun K hK => ?_) (TF)
   go_simp
   go_at_call 29
   refine (HCc.out _ _ _ _ _ ((hs1).below hb6) hg1).mono ?_
   rintro e v9 ⟨CA, cc, CB, cd, rfl, ho9, hu9, hb9⟩
   have zv9 := (hHeld.trans (hb9.mono hHeld.size)).size
   try go_simp
   refine hK.out _ _ ?_ (fun hHeld => ?_)
   · exact hHeld.trans (hb9.mono hHeld.size)
   clear hK K
   try simp only [Act.put, TA, TB, TC]
   refine TD (i := 8) (oi := ⟨some 99, _, _, _, _, _⟩) (v := ?_) rfl (by kernel_rfl) (by kernel_rfl) (by kernel_rfl) (fun _ _ _ h => h) (Or.inl ⟨by kernel_rfl, ?_⟩) hHeld ?_
   rotate_left
   · intro w1 hSw; (try dsimp only at hSw); go_simp <;> with_reducible rfl
   try simp only [Act.put, TA, TB, TC]
   refine TD (i := 9) (oi := ⟨some 108, _, _, _, _, _⟩) (v := ?_) rfl (by kernel_rfl) (by kernel_rfl) (by kernel_rfl) (fun _ _ _ h => h) (Or.inl ⟨by kernel_rfl, ?_⟩) hHeld ?_
   rotate_left
   · intro w1 hSw; (try dsimp only at hSw); go_simp <;> with_reducible rfl
   try simp only [Act.put, TA, TB, TC]
   refine TD (i := 10) (oi := ⟨some 109, _, _, _, _, _⟩) (v := ?_) rfl (by kernel_rfl) (by kernel_rfl) (by kernel_rfl) (fun _ _ _ h => h) (Or.inl ⟨by kernel_rfl, ?_⟩) hHeld ?_
   rotate_left
   · intro w1 hSw; (try dsimp only at hSw); go_simp <;> with_reducible rfl
   try simp only [Act.put, TA, TB, TC]
   refine TG (rs := [12]) (by kernel_rfl) (by simp) ?_
   refine TE rfl (fun K hK => ?_) (TF)
   have hz := (((Row.new W5b.drew 91 zero4).old hb1).old hb6).old hb9
   have hg : W5b.heap.size ≤ W5b.heap.size := Nat.le_refl _
   refine step_store_row rfl 91 _ _ rfl W5b.heap.size [.int .i64 sc, .int .i64 sp, .slice CA xc.length cc, .slice CB mc.length cd] rfl rfl 91 zero4 hz (by kernel_rfl) rfl (by simp [Value.oneCell']) ?_
   refine hK.out _ _ ?_ (fun hHeld => ?_)
   · exact Below.setRow hHeld hg _
   clear hK K
   try simp only [Act.put, TA, TB, TC]
   refine TD (i := 13) (oi := ⟨some 14, _, _, _, _, _⟩) (v := ?_) rfl (by kernel_rfl) (by kernel_rfl) (by kernel_rfl) (fun _ _ _ h => h) (Or.inl ⟨by kernel_rfl, ?_⟩) hHeld ?_
   rotate_left
   · intro w1 hSw; (try dsimp only at hSw); go_simp <;> with_reducible rfl
   try simp only [Act.put, TA, TB, TC]
   refine wpAnyH_done (by kernel_rfl) ?_ _
   go_wp2_with fail
   go_meet
   exact ⟨_, CA, cc, CB, cd, rfl, rfl, hz.setRow _, ⟨owned_rd (owns_far ho9 _ _ (by have q0 := hb1.size; have q1 := hb6.size; (simp at q0 q1 ⊢) <;> omega) (Nat.zero_le _)), owned_rd (owns_far hu9 _ _ (by have q0 := hb1.size; have q1 := hb6.size; (simp at q0 q1 ⊢) <;> omega) (Nat.zero_le _)), (own_cap ho9).2⟩, hHeld⟩
 case rest =>
 obtain ⟨gc, Ac, cc, Bc, dc, rfl, rfl, rk, sk, hb⟩ := hcut
 have HRc0 : Hid (RcR sp wc gc sc xc mc Ac Bc cc dc) := ⟨rk, sk⟩
 clear rk sk
 have HS' := Lib.hid (HS.out.keep hb)
 have HRa' := Lib.hid (HRa.out.below hb)
 have HRb' := Lib.hid (HRb.out.below hb)
 clear HS HRa HRb
 have HS := HS'; have HRa := HRa'; have HRb := HRb'
 clear HS' HRa' HRb'
 have HRc := HRc0
 clear HRc0 hb
 obtain ⟨W7, hW⟩ : ∃ W7 : World, W7 = wc := ⟨_, rfl⟩
 subst hW
 go_upto_region 8 with fail
 go_cut [164] from 110 to 164 (fun s wx => s = .bool false ∧ Below W7.heap.size W7 wx)
 case first => as_aux_lemma =>
  have p0 := HRa.out.1.cell 0; have p1 := HRa.out.1.cell 1; have p2 := HRa.out.1.cell 2; have p3 := HRa.out.1.cell 3; simp only [List.getElem?_cons_succ, List.getElem?_cons_zero] at p0 p1 p2 p3
  have q0 := HRb.out.1.cell 0; have q1 := HRb.out.1.cell 1; have q2 := HRb.out.1.cell 2; have q3 := HRb.out.1.cell 3; simp only [List.getElem?_cons_succ, List.getElem?_cons_zero] at q0 q1 q2 q3
  have r0 := HRc.out.1.cell 0; have r1 := HRc.out.1.cell 1; have r2 := HRc.out.1.cell 2; have r3 := HRc.out.1.cell 3; simp only [List.getElem?_cons_succ, List.getElem?_cons_zero] at r0 r1 r2 r3
  have u0 := HS.out.1.cell 0; have u1 := HS.out.1.cell 1; have u2 := HS.out.1.cell 2; have u3 := HS.out.1.cell 3; simp only [List.getElem?_cons_succ, List.getElem?_cons_zero] at u0 u1 u2 u3
  have e0 := HPB.out
  have e1 : (sa != st) = false := by rw [HSA.out]; simp
  have e2 : (sb != st + pb) = false := by rw [HSB.out, HPB.out]; simp
  have e3 : ((xb.length : Int) != (hi : Int) - (lo : Int)) = false := by rw [bne_eq_false_iff_eq]; have := HXB.out; omega
  have e4 : ((ma.length : Int) + (mb.length : Int) + (mc.length : Int) != (ms.length : Int)) = false := by rw [bne_eq_false_iff_eq]; have := HM3.out; omega
  go_wp2
  go_meet
  exact ⟨by first | rfl | simp [e1, e2, e3, e4], Below.refl _ _⟩
 case rest =>
 obtain ⟨rfl, hb⟩ := hcut
 have HS' := Lib.hid (HS.out.keep hb)
 have HRa' := Lib.hid (HRa.out.below hb)
 have HRb' := Lib.hid (HRb.out.below hb)
 have HRc' := Lib.hid (HRc.out.below hb)
 clear HS HRa HRb HRc
 have HS := HS'; have HRa := HRa'; have HRb := HRb'; have HRc := HRc'
 clear HS' HRa' HRb' HRc'
 clear hb
 obtain ⟨W8, hW⟩ : ∃ W8 : World, W8 = wc := ⟨_, rfl⟩
 subst hW
 go_upto_region 10 with fail
 go_cut [15, 16] from 166 to 174 (fun s15 s16 wx => ∃ (g : Nat) (CA : Option Addr) (cc : Nat) (CB : Option Addr) (cd : Nat), s15 = .pointer (some ⟨g, 0, none⟩) ∧ s16 = .int .i64 0 ∧ Row wx g 91 [.int .i64 sa, .int .i64 sp, .slice CA xab.length cc, .slice CB mab.length cd] ∧ SlOk wx CA cc xab CB mab ∧ Below W8.heap.size W8 wx)
 case first => as_aux_lemma =>
  refine wp_region_held_drew (S := fun V => Below W8.heap.size W8 V) (by kernel_rfl) ?_ (fun hHeld => ?_)
  · exact (Below.refl _ _).drew
  refine TD (i := 0) (oi := ⟨some 166, _, _, _, _, _⟩) (v := .agg #[.int .i64 sa, .int .i64 sp, .slice Aa xa.length ca, .slice Ba ma.length da]) rfl (by kernel_rfl) (by kernel_rfl) (by kernel_rfl) (fun _ _ _ h => h) (Or.inl ⟨by kernel_rfl, fun V hV => ex_row2 91 _ rfl ga rfl 91 [.int .i64 sa, .int .i64 sp, .slice Aa xa.length ca, .slice Ba ma.length da] _ Tryz.underlying91 rfl (by kernel_rfl) ((HRa.out.below hV).1)⟩) hHeld ?_
  try simp only [Act.put, TA, TB, TC]
  refine TD (i := 3) (oi := ⟨some 169, _, _, _, _, _⟩) (v := .agg #[.int .i64 sb, .int .i64 sp, .slice Ab xb.length cb, .slice Bb mb.length db]) rfl (by kernel_rfl) (by kernel_rfl) (by kernel_rfl) (fun _ _ _ h => h) (Or.inl ⟨by kernel_rfl, fun V hV => ex_row2 91 _ rfl gb rfl 91 [.int .i64 sb, .int .i64 sp, .slice Ab xb.length cb, .slice Bb mb.length db] _ Tryz.underlying91 rfl (by kernel_rfl) ((HRb.out.below hV).1)⟩) hHeld ?_
  try simp only [Act.put, TA, TB, TC]
  refine TG (rs := [1, 10]) (by kernel_rfl) (by simp) ?_
  refine TE rfl (fun K hK => ?_) (TE rfl (fun K hK => ?_) (TF))
  ·
   go_simp
   go_at_call 33
   refine (told_sl sa sp Aa Ba ca da xa ma _ (HRa.out.below hHeld).2 HXxa.out HMma.out).mono ?_
   rintro e v1 ⟨A1, c1, B1, d1, rfl, hs1, hb1⟩
   have zv1 := (hHeld.trans (hb1.mono hHeld.size)).size
   try go_simp
   refine hK.out _ _ ?_ (fun hHeld => ?_)
   · exact hHeld.trans (hb1.mono hHeld.size)
   clear hK K
   try simp only [Act.put, TA, TB, TC]
   refine TG (rs := [2, 10]) (by kernel_rfl) (by simp) ?_
   refine TE rfl (fun K hK => ?_) (TE rfl (fun K hK => ?_) (TF))
   ·
    go_simp
    go_at_call 30
    refine (given_sl sa sp A1 B1 c1 d1 xa ma _ (hs1) HXxa.out HMma.out).mono ?_
    rintro e v2 ⟨A2, c2, B2, d2, rfl, hs2, -, hb2⟩
    have zv2 := (hHeld.trans (hb2.mono hHeld.size)).size
    try go_simp
    refine hK.out _ _ ?_ (fun hHeld => ?_)
    · exact hHeld.trans (hb2.mono hHeld.size)
    clear hK K
    try simp only [Act.put, TA, TB, TC]
    refine TG (rs := [4, 10]) (by kernel_rfl) (by simp) ?_
    refine TE rfl (fun K hK => ?_) (TE rfl (fun K hK => ?_) (TF))
    ·
     go_simp
     go_at_call 33
     refine (told_sl sb sp Ab Bb cb db xb mb _ (HRb.out.below hHeld).2 HXxb.out HMmb.out).mono ?_
     rintro e v4 ⟨A4, c4, B4, d4, rfl, hs4, hb4⟩
     have zv4 := (hHeld.trans (hb4.mono hHeld.size)).size
     try go_simp
     refine hK.out _ _ ?_ (fun hHeld => ?_)
     · exact hHeld.trans (hb4.mono hHeld.size)
     clear hK K
     try simp only [Act.put, TA, TB, TC]
     refine TG (rs := [5, 10]) (by kernel_rfl) (by simp) ?_
     refine TE rfl (fun K hK => ?_) (TE rfl (fun K hK => ?_) (TF))
     ·
      go_simp
      go_at_call 30
      refine (given_sl sb sp A4 B4 c4 d4 xb mb _ (hs4) HXxb.out HMmb.out).mono ?_
      rintro e v5 ⟨A5, c5, B5, d5, rfl, hs5, -, hb5⟩
      have zv5 := (hHeld.trans (hb5.mono hHeld.size)).size
      try go_simp
      refine hK.out _ _ ?_ (fun hHeld => ?_)
      · exact hHeld.trans (hb5.mono hHeld.size)
      clear hK K
      try simp only [Act.put, TA, TB, TC]
      refine TG (rs := [6, 10]) (by kernel_rfl) (by simp) ?_
      refine TE rfl (fun K hK => ?_) (TE rfl (fun K hK => ?_) (TF))
      ·
       go_simp
       go_at_call 32
       refine (HJp.out _ _ _ _ _ _ _ _ _ (((hs2).below hb4).below hb5) (hs5)).mono ?_
       rintro e v9 ⟨CA, cc, CB, cd, rfl, ho9, hu9, hb9⟩
       have zv9 := (hHeld.trans (hb9.mono hHeld.size)).size
       try go_simp
       refine hK.out _ _ ?_ (fun hHeld => ?_)
       · exact hHeld.trans (hb9.mono hHeld.size)
       clear hK K
       try simp only [Act.put, TA, TB, TC]
       refine TD (i := 7) (oi := ⟨some 165, _, _, _, _, _⟩) (v := ?_) rfl (by kernel_rfl) (by kernel_rfl) (by kernel_rfl) (fun _ _ _ h => h) (Or.inl ⟨by kernel_rfl, ?_⟩) hHeld ?_
       rotate_left
       · intro w1 hSw; (try dsimp only at hSw); go_simp <;> with_reducible rfl
       try simp only [Act.put, TA, TB, TC]
       refine TD (i := 8) (oi := ⟨some 173, _, _, _, _, _⟩) (v := ?_) rfl (by kernel_rfl) (by kernel_rfl) (by kernel_rfl) (fun _ _ _ h => h) (Or.inl ⟨by kernel_rfl, ?_⟩) hHeld ?_
       rotate_left
       · intro w1 hSw; (try dsimp only at hSw); go_simp <;> with_reducible rfl
       try simp only [Act.put, TA, TB, TC]
       refine TD (i := 9) (oi := ⟨some 174, _, _, _, _, _⟩) (v := ?_) rfl (by kernel_rfl) (by kernel_rfl) (by kernel_rfl) (fun _ _ _ h => h) (Or.inl ⟨by kernel_rfl, ?_⟩) hHeld ?_
       rotate_left
       · intro w1 hSw; (try dsimp only at hSw); go_simp <;> with_reducible rfl
       try simp only [Act.put, TA, TB, TC]
       refine TG (rs := [10]) (by kernel_rfl) (by simp) ?_
       refine TE rfl (fun K hK => ?_) (TF)
       go_simp
       refine hK.out _ _ ?_ (fun hHeld => ?_)
       · exact hHeld.alloc hHeld.size _
       clear hK K
       try simp only [Act.put, TA, TB, TC]
       refine TG (rs := [11]) (by kernel_rfl) (by simp) ?_
       refine TE rfl (fun K hK => ?_) (TF)
       have hz := Row.new v9 91 zero4
       have hg : W8.heap.size ≤ v9.heap.size := zv9
       refine step_store_row rfl 91 _ _ rfl v9.heap.size [.int .i64 sa, .int .i64 sp, .slice CA xab.length cc, .slice CB mab.length cd] rfl rfl 91 zero4 hz (by kernel_rfl) rfl (by simp [Value.oneCell']) ?_
       refine hK.out _ _ ?_ (fun hHeld => ?_)
       · exact Below.setRow hHeld hg _
       clear hK K
       try simp only [Act.put, TA, TB, TC]
       refine TD (i := 12) (oi := ⟨some 16, _, _, _, _, _⟩) (v := ?_) rfl (by kernel_rfl) (by kernel_rfl) (by kernel_rfl) (fun _ _ _ h => h) (Or.inl ⟨by kernel_rfl, ?_⟩) hHeld ?_
       rotate_left
       · intro w1 hSw; (try dsimp only at hSw); go_simp <;> with_reducible rfl
       try simp only [Act.put, TA, TB, TC]
       refine wpAnyH_done (by kernel_rfl) ?_ _
       go_wp2_with fail
       go_meet
       exact ⟨_, CA, cc, CB, cd, rfl, rfl, hz.setRow _, ⟨owned_rd (owns_other v9.heap.size (ho9.alloc _) (fun j hj hne => setRow_other _ _ _ _ hne) (fun e => by have := (ho9.lt _ e).2; omega)), owned_rd (owns_other v9.heap.size (hu9.alloc _) (fun j hj hne => setRow_other _ _ _ _ hne) (fun e => by have := (hu9.lt _ e).2; omega)), (own_cap ho9).2⟩, hHeld⟩
      ·
       go_simp
       refine hK.out _ _ ?_ (fun hHeld => ?_)
       · exact hHeld.alloc hHeld.size _
       clear hK K
       try simp only [Act.put, TA, TB, TC]
       refine TG (rs := [6]) (by kernel_rfl) (by simp) ?_
       refine TE rfl (fun K hK => ?_) (TF)
       go_simp
       go_at_call 32
       refine (HJp.out _ _ _ _ _ _ _ _ _ ((((hs2).below hb4).below hb5).below ((Below.refl _ _).alloc (Nat.le_refl _) _)) ((hs5).below ((Below.refl _ _).alloc (Nat.le_refl _) _))).mono ?_
       rintro e v9 ⟨CA, cc, CB, cd, rfl, ho9, hu9, hb9⟩
       have zv9 := (hHeld.trans (hb9.mono hHeld.size)).size
       try go_simp
       refine hK.out _ _ ?_ (fun hHeld => ?_)
       · exact hHeld.trans (hb9.mono hHeld.size)
       clear hK K
       try simp only [Act.put, TA, TB, TC]
       refine TD (i := 7) (oi := ⟨some 165, _, _, _, _, _⟩) (v := ?_) rfl (by kernel_rfl) (by kernel_rfl) (by kernel_rfl) (fun _ _ _ h => h) (Or.inl ⟨by kernel_rfl, ?_⟩) hHeld ?_
       rotate_left
       · intro w1 hSw; (try dsimp only at hSw); go_simp <;> with_reducible rfl
       try simp only [Act.put, TA, TB, TC]
       refine TD (i := 8) (oi := ⟨some 173, _, _, _, _, _⟩) (v := ?_) rfl (by kernel_rfl) (by kernel_rfl) (by kernel_rfl) (fun _ _ _ h => h) (Or.inl ⟨by kernel_rfl, ?_⟩) hHeld ?_
       rotate_left
       · intro w1 hSw; (try dsimp only at hSw); go_simp <;> with_reducible rfl
       try simp only [Act.put, TA, TB, TC]
       refine TD (i := 9) (oi := ⟨some 174, _, _, _, _, _⟩) (v := ?_) rfl (by kernel_rfl) (by kernel_rfl) (by kernel_rfl) (fun _ _ _ h => h) (Or.inl ⟨by kernel_rfl, ?_⟩) hHeld ?_
       rotate_left
       · intro w1 hSw; (try dsimp only at hSw); go_simp <;> with_reducible rfl
       try simp only [Act.put, TA, TB, TC]
       refine TG (rs := [11]) (by kernel_rfl) (by simp) ?_
       refine TE rfl (fun K hK => ?_) (TF)
       have hz := (Row.new v5 91 zero4).old hb9
       have hg : W8.heap.size ≤ v5.heap.size := zv5
       refine step_store_row rfl 91 _ _ rfl v5.heap.size [.int .i64 sa, .int .i64 sp, .slice CA xab.length cc, .slice CB mab.length cd] rfl rfl 91 zero4 hz (by kernel_rfl) rfl (by simp [Value.oneCell']) ?_
       refine hK.out _ _ ?_ (fun hHeld => ?_)
       · exact Below.setRow hHeld hg _
       clear hK K
       try simp only [Act.put, TA, TB, TC]
       refine TD (i := 12) (oi := ⟨some 16, _, _, _, _, _⟩) (v := ?_) rfl (by kernel_rfl) (by kernel_rfl) (by kernel_rfl) (fun _ _ _ h => h) (Or.inl ⟨by kernel_rfl, ?_⟩) hHeld ?_
       rotate_left
       · intro w1 hSw; (try dsimp only at hSw); go_simp <;> with_reducible rfl
       try simp only [Act.put, TA, TB, TC]
       refine wpAnyH_done (by kernel_rfl) ?_ _
       go_wp2_with fail
       go_meet
       exact ⟨_, CA, cc, CB, cd, rfl, rfl, hz.setRow _, ⟨owned_rd (owns_far ho9 _ _ (by  (simp ) <;> omega) (Nat.zero_le _)), owned_rd (owns_far hu9 _ _ (by  (simp ) <;> omega) (Nat.zero_le _)), (own_cap ho9).2⟩, hHeld⟩
     ·
      go_simp
      refine hK.out _ _ ?_ (fun hHeld => ?_)
      · exact hHeld.alloc hHeld.size _
      clear hK K
      try simp only [Act.put, TA, TB, TC]
      refine TG (rs := [5]) (by kernel_rfl) (by simp) ?_
      refine TE rfl (fun K hK => ?_) (TF)
      go_simp
      go_at_call 30
      refine (given_sl sb sp A4 B4 c4 d4 xb mb _ ((hs4).below ((Below.refl _ _).alloc (Nat.le_refl _) _)) HXxb.out HMmb.out).mono ?_
      rintro e v5 ⟨A5, c5, B5, d5, rfl, hs5, -, hb5⟩
      have zv5 := (hHeld.trans (hb5.mono hHeld.size)).size
      try go_simp
      refine hK.out _ _ ?_ (fun hHeld => ?_)
      · exact hHeld.trans (hb5.mono hHeld.size)
      clear hK K
      try simp only [Act.put, TA, TB, TC]
      refine TG (rs := [6]) (by kernel_rfl) (by simp) ?_
      refine TE rfl (fun K hK => ?_) (TF)
      go_simp
      go_at_call 32
      refine (HJp.out _ _ _ _ _ _ _ _ _ ((((hs2).below hb4).below ((Below.refl _ _).alloc (Nat.le_refl _) _)).below hb5) (hs5)).mono ?_
      rintro e v9 ⟨CA, cc, CB, cd, rfl, ho9, hu9, hb9⟩
      have zv9 := (hHeld.trans (hb9.mono hHeld.size)).size
      try go_simp
      refine hK.out _ _ ?_ (fun hHeld => ?_)
      · exact hHeld.trans (hb9.mono hHeld.size)
      clear hK K
      try simp only [Act.put, TA, TB, TC]
      refine TD (i := 7) (oi := ⟨some 165, _, _, _, _, _⟩) (v := ?_) rfl (by kernel_rfl) (by kernel_rfl) (by kernel_rfl) (fun _ _ _ h => h) (Or.inl ⟨by kernel_rfl, ?_⟩) hHeld ?_
      rotate_left
      · intro w1 hSw; (try dsimp only at hSw); go_simp <;> with_reducible rfl
      try simp only [Act.put, TA, TB, TC]
      refine TD (i := 8) (oi := ⟨some 173, _, _, _, _, _⟩) (v := ?_) rfl (by kernel_rfl) (by kernel_rfl) (by kernel_rfl) (fun _ _ _ h => h) (Or.inl ⟨by kernel_rfl, ?_⟩) hHeld ?_
      rotate_left
      · intro w1 hSw; (try dsimp only at hSw); go_simp <;> with_reducible rfl
      try simp only [Act.put, TA, TB, TC]
      refine TD (i := 9) (oi := ⟨some 174, _, _, _, _, _⟩) (v := ?_) rfl (by kernel_rfl) (by kernel_rfl) (by kernel_rfl) (fun _ _ _ h => h) (Or.inl ⟨by kernel_rfl, ?_⟩) hHeld ?_
      rotate_left
      · intro w1 hSw; (try dsimp only at hSw); go_simp <;> with_reducible rfl
      try simp only [Act.put, TA, TB, TC]
      refine TG (rs := [11]) (by kernel_rfl) (by simp) ?_
      refine TE rfl (fun K hK => ?_) (TF)
      have hz := ((Row.new v4 91 zero4).old hb5).old hb9
      have hg : W8.heap.size ≤ v4.heap.size := zv4
      refine step_store_row rfl 91 _ _ rfl v4.heap.size [.int .i64 sa, .int .i64 sp, .slice CA xab.length cc, .slice CB mab.length cd] rfl rfl 91 zero4 hz (by kernel_rfl) rfl (by simp [Value.oneCell']) ?_
      refine hK.out _ _ ?_ (fun hHeld => ?_)
      · exact Below.setRow hHeld hg _
      clear hK K
      try simp only [Act.put, TA, TB, TC]
      refine TD (i := 12) (oi := ⟨some 16, _, _, _, _, _⟩) (v := ?_) rfl (by kernel_rfl) (by kernel_rfl) (by kernel_rfl) (fun _ _ _ h => h) (Or.inl ⟨by kernel_rfl, ?_⟩) hHeld ?_
      rotate_left
      · intro w1 hSw; (try dsimp only at hSw); go_simp <;> with_reducible rfl
      try simp only [Act.put, TA, TB, TC]
      refine wpAnyH_done (by kernel_rfl) ?_ _
      go_wp2_with fail
      go_meet
      exact ⟨_, CA, cc, CB, cd, rfl, rfl, hz.setRow _, ⟨owned_rd (owns_far ho9 _ _ (by have q0 := hb5.size; (simp at q0 ⊢) <;> omega) (Nat.zero_le _)), owned_rd (owns_far hu9 _ _ (by have q0 := hb5.size; (simp at q0 ⊢) <;> omega) (Nat.zero_le _)), (own_cap ho9).2⟩, hHeld⟩
    ·
     go_simp
     refine hK.out _ _ ?_ (fun hHeld => ?_)
     · exact hHeld.alloc hHeld.size _
     clear hK K
     try simp only [Act.put, TA, TB, TC]
     refine TG (rs := [4]) (by kernel_rfl) (by simp) ?_
     refine TE rfl (fun K hK => ?_) (TF)
     go_simp
     go_at_call 33
     refine (told_sl sb sp Ab Bb cb db xb mb _ (HRb.out.below hHeld).2 HXxb.out HMmb.out).mono ?_
     rintro e v4 ⟨A4, c4, B4, d4, rfl, hs4, hb4⟩
     have zv4 := (hHeld.trans (hb4.mono hHeld.size)).size
     try go_simp
     refine hK.out _ _ ?_ (fun hHeld => ?_)
     · exact hHeld.trans (hb4.mono hHeld.size)
     clear hK K
     try simp only [Act.put, TA, TB, TC]
     refine TG (rs := [5]) (by kernel_rfl) (by simp) ?_
     refine TE rfl (fun K hK => ?_) (TF)
     go_simp
     go_at_call 30
     refine (given_sl sb sp A4 B4 c4 d4 xb mb _ (hs4) HXxb.out HMmb.out).mono ?_
     rintro e v5 ⟨A5, c5, B5, d5, rfl, hs5, -, hb5⟩
     have zv5 := (hHeld.trans (hb5.mono hHeld.size)).size
     try go_simp
     refine hK.out _ _ ?_ (fun hHeld => ?_)
     · exact hHeld.trans (hb5.mono hHeld.size)
     clear hK K
     try simp only [Act.put, TA, TB, TC]
     refine TG (rs := [6]) (by kernel_rfl) (by simp) ?_
     refine TE rfl (fun K hK => ?_) (TF)
     go_simp
     go_at_call 32
     refine (HJp.out _ _ _ _ _ _ _ _ _ ((((hs2).below ((Below.refl _ _).alloc (Nat.le_refl _) _)).below hb4).below hb5) (hs5)).mono ?_
     rintro e v9 ⟨CA, cc, CB, cd, rfl, ho9, hu9, hb9⟩
     have zv9 := (hHeld.trans (hb9.mono hHeld.size)).size
     try go_simp
     refine hK.out _ _ ?_ (fun hHeld => ?_)
     · exact hHeld.trans (hb9.mono hHeld.size)
     clear hK K
     try simp only [Act.put, TA, TB, TC]
     refine TD (i := 7) (oi := ⟨some 165, _, _, _, _, _⟩) (v := ?_) rfl (by kernel_rfl) (by kernel_rfl) (by kernel_rfl) (fun _ _ _ h => h) (Or.inl ⟨by kernel_rfl, ?_⟩) hHeld ?_
     rotate_left
     · intro w1 hSw; (try dsimp only at hSw); go_simp <;> with_reducible rfl
     try simp only [Act.put, TA, TB, TC]
     refine TD (i := 8) (oi := ⟨some 173, _, _, _, _, _⟩) (v := ?_) rfl (by kernel_rfl) (by kernel_rfl) (by kernel_rfl) (fun _ _ _ h => h) (Or.inl ⟨by kernel_rfl, ?_⟩) hHeld ?_
     rotate_left
     · intro w1 hSw; (try dsimp only at hSw); go_simp <;> with_reducible rfl
     try simp only [Act.put, TA, TB, TC]
     refine TD (i := 9) (oi := ⟨some 174, _, _, _, _, _⟩) (v := ?_) rfl (by kernel_rfl) (by kernel_rfl) (by kernel_rfl) (fun _ _ _ h => h) (Or.inl ⟨by kernel_rfl, ?_⟩) hHeld ?_
     rotate_left
     · intro w1 hSw; (try dsimp only at hSw); go_simp <;> with_reducible rfl
     try simp only [Act.put, TA, TB, TC]
     refine TG (rs := [11]) (by kernel_rfl) (by simp) ?_
     refine TE rfl (fun K hK => ?_) (TF)
     have hz := (((Row.new v2 91 zero4).old hb4).old hb5).old hb9
     have hg : W8.heap.size ≤ v2.heap.size := zv2
     refine step_store_row rfl 91 _ _ rfl v2.heap.size [.int .i64 sa, .int .i64 sp, .slice CA xab.length cc, .slice CB mab.length cd] rfl rfl 91 zero4 hz (by kernel_rfl) rfl (by simp [Value.oneCell']) ?_
     refine hK.out _ _ ?_ (fun hHeld => ?_)
     · exact Below.setRow hHeld hg _
     clear hK K
     try simp only [Act.put, TA, TB, TC]
     refine TD (i := 12) (oi := ⟨some 16, _, _, _, _, _⟩) (v := ?_) rfl (by kernel_rfl) (by kernel_rfl) (by kernel_rfl) (fun _ _ _ h => h) (Or.inl ⟨by kernel_rfl, ?_⟩) hHeld ?_
     rotate_left
     · intro w1 hSw; (try dsimp only at hSw); go_simp <;> with_reducible rfl
     try simp only [Act.put, TA, TB, TC]
     refine wpAnyH_done (by kernel_rfl) ?_ _
     go_wp2_with fail
     go_meet
     exact ⟨_, CA, cc, CB, cd, rfl, rfl, hz.setRow _, ⟨owned_rd (owns_far ho9 _ _ (by have q0 := hb4.size; have q1 := hb5.size; (simp at q0 q1 ⊢) <;> omega) (Nat.zero_le _)), owned_rd (owns_far hu9 _ _ (by have q0 := hb4.size; have q1 := hb5.size; (simp at q0 q1 ⊢) <;> omega) (Nat.zero_le _)), (own_cap ho9).2⟩, hHeld⟩
   ·
    go_simp
    refine hK.out _ _ ?_ (fun hHeld => ?_)
    · exact hHeld.alloc hHeld.size _
    clear hK K
    try simp only [Act.put, TA, TB, TC]
    refine TG (rs := [2]) (by kernel_rfl) (by simp) ?_
    refine TE rfl (fun K hK => ?_) (TF)
    go_simp
    go_at_call 30
    refine (given_sl sa sp A1 B1 c1 d1 xa ma _ ((hs1).below ((Below.refl _ _).alloc (Nat.le_refl _) _)) HXxa.out HMma.out).mono ?_
    rintro e v2 ⟨A2, c2, B2, d2, rfl, hs2, -, hb2⟩
    have zv2 := (hHeld.trans (hb2.mono hHeld.size)).size
    try go_simp
    refine hK.out _ _ ?_ (fun hHeld => ?_)
    · exact hHeld.trans (hb2.mono hHeld.size)
    clear hK K
    try simp only [Act.put, TA, TB, TC]
    refine TG (rs := [4]) (by kernel_rfl) (by simp) ?_
    refine TE rfl (fun K hK => ?_) (TF)
    go_simp
    go_at_call 33
    refine (told_sl sb sp Ab Bb cb db xb mb _ (HRb.out.below hHeld).2 HXxb.out HMmb.out).mono ?_
    rintro e v4 ⟨A4, c4, B4, d4, rfl, hs4, hb4⟩
    have zv4 := (hHeld.trans (hb4.mono hHeld.size)).size
    try go_simp
    refine hK.out _ _ ?_ (fun hHeld => ?_)
    · exact hHeld.trans (hb4.mono hHeld.size)
    clear hK K
    try simp only [Act.put, TA, TB, TC]
    refine TG (rs := [5]) (by kernel_rfl) (by simp) ?_
    refine TE rfl (fun K hK => ?_) (TF)
    go_simp
    go_at_call 30
    refine (given_sl sb sp A4 B4 c4 d4 xb mb _ (hs4) HXxb.out HMmb.out).mono ?_
    rintro e v5 ⟨A5, c5, B5, d5, rfl, hs5, -, hb5⟩
    have zv5 := (hHeld.trans (hb5.mono hHeld.size)).size
    try go_simp
    refine hK.out _ _ ?_ (fun hHeld => ?_)
    · exact hHeld.trans (hb5.mono hHeld.size)
    clear hK K
    try simp only [Act.put, TA, TB, TC]
    refine TG (rs := [6]) (by kernel_rfl) (by simp) ?_
    refine TE rfl (fun K hK => ?_) (TF)
    go_simp
    go_at_call 32
    refine (HJp.out _ _ _ _ _ _ _ _ _ (((hs2).below hb4).below hb5) (hs5)).mono ?_
    rintro e v9 ⟨CA, cc, CB, cd, rfl, ho9, hu9, hb9⟩
    have zv9 := (hHeld.trans (hb9.mono hHeld.size)).size
    try go_simp
    refine hK.out _ _ ?_ (fun hHeld => ?_)
    · exact hHeld.trans (hb9.mono hHeld.size)
    clear hK K
    try simp only [Act.put, TA, TB, TC]
    refine TD (i := 7) (oi := ⟨some 165, _, _, _, _, _⟩) (v := ?_) rfl (by kernel_rfl) (by kernel_rfl) (by kernel_rfl) (fun _ _ _ h => h) (Or.inl ⟨by kernel_rfl, ?_⟩) hHeld ?_
    rotate_left
    · intro w1 hSw; (try dsimp only at hSw); go_simp <;> with_reducible rfl
    try simp only [Act.put, TA, TB, TC]
    refine TD (i := 8) (oi := ⟨some 173, _, _, _, _, _⟩) (v := ?_) rfl (by kernel_rfl) (by kernel_rfl) (by kernel_rfl) (fun _ _ _ h => h) (Or.inl ⟨by kernel_rfl, ?_⟩) hHeld ?_
    rotate_left
    · intro w1 hSw; (try dsimp only at hSw); go_simp <;> with_reducible rfl
    try simp only [Act.put, TA, TB, TC]
    refine TD (i := 9) (oi := ⟨some 174, _, _, _, _, _⟩) (v := ?_) rfl (by kernel_rfl) (by kernel_rfl) (by kernel_rfl) (fun _ _ _ h => h) (Or.inl ⟨by kernel_rfl, ?_⟩) hHeld ?_
    rotate_left
    · intro w1 hSw; (try dsimp only at hSw); go_simp <;> with_reducible rfl
    try simp only [Act.put, TA, TB, TC]
    refine TG (rs := [11]) (by kernel_rfl) (by simp) ?_
    refine TE rfl (fun K hK => ?_) (TF)
    have hz := ((((Row.new v1 91 zero4).old hb2).old hb4).old hb5).old hb9
    have hg : W8.heap.size ≤ v1.heap.size := zv1
    refine step_store_row rfl 91 _ _ rfl v1.heap.size [.int .i64 sa, .int .i64 sp, .slice CA xab.length cc, .slice CB mab.length cd] rfl rfl 91 zero4 hz (by kernel_rfl) rfl (by simp [Value.oneCell']) ?_
    refine hK.out _ _ ?_ (fun hHeld => ?_)
    · exact Below.setRow hHeld hg _
    clear hK K
    try simp only [Act.put, TA, TB, TC]
    refine TD (i := 12) (oi := ⟨some 16, _, _, _, _, _⟩) (v := ?_) rfl (by kernel_rfl) (by kernel_rfl) (by kernel_rfl) (fun _ _ _ h => h) (Or.inl ⟨by kernel_rfl, ?_⟩) hHeld ?_
    rotate_left
    · intro w1 hSw; (try dsimp only at hSw); go_simp <;> with_reducible rfl
    try simp only [Act.put, TA, TB, TC]
    refine wpAnyH_done (by kernel_rfl) ?_ _
    go_wp2_with fail
    go_meet
    exact ⟨_, CA, cc, CB, cd, rfl, rfl, hz.setRow _, ⟨owned_rd (owns_far ho9 _ _ (by have q0 := hb2.size; have q1 := hb4.size; have q2 := hb5.size; (simp at q0 q1 q2 ⊢) <;> omega) (Nat.zero_le _)), owned_rd (owns_far hu9 _ _ (by have q0 := hb2.size; have q1 := hb4.size; have q2 := hb5.size; (simp at q0 q1 q2 ⊢) <;> omega) (Nat.zero_le _)), (own_cap ho9).2⟩, hHeld⟩
  ·
   go_simp
   refine hK.out _ _ ?_ (fun hHeld => ?_)
   · exact hHeld.alloc hHeld.size _
   clear hK K
   try simp only [Act.put, TA, TB, TC]
   refine TG (rs := [1]) (by kernel_rfl) (by simp) ?_
   refine TE rfl (fun K hK => ?_) (TF)
   go_simp
   go_at_call 33
   refine (told_sl sa sp Aa Ba ca da xa ma _ (HRa.out.below hHeld).2 HXxa.out HMma.out).mono ?_
   rintro e v1 ⟨A1, c1, B1, d1, rfl, hs1, hb1⟩
   have zv1 := (hHeld.trans (hb1.mono hHeld.size)).size
   try go_simp
   refine hK.out _ _ ?_ (fun hHeld => ?_)
   · exact hHeld.trans (hb1.mono hHeld.size)
   clear hK K
   try simp only [Act.put, TA, TB, TC]
   refine TG (rs := [2]) (by kernel_rfl) (by simp) ?_
   refine TE rfl (fun K hK => ?_) (TF)
   go_simp
   go_at_call 30
   refine (given_sl sa sp A1 B1 c1 d1 xa ma _ (hs1) HXxa.out HMma.out).mono ?_
   rintro e v2 ⟨A2, c2, B2, d2, rfl, hs2, -, hb2⟩
   have zv2 := (hHeld.trans (hb2.mono hHeld.size)).size
   try go_simp
   refine hK.out _ _ ?_ (fun hHeld => ?_)
   · exact hHeld.trans (hb2.mono hHeld.size)
   clear hK K
   try simp only [Act.put, TA, TB, TC]
   refine TG (rs := [4]) (by kernel_rfl) (by simp) ?_
   refine TE rfl (fun K hK => ?_) (TF)
   go_simp
   go_at_call 33
   refine (told_sl sb sp Ab Bb cb db xb mb _ (HRb.out.below hHeld).2 HXxb.out HMmb.out).mono ?_
   rintro e v4 ⟨A4, c4, B4, d4, rfl, hs4, hb4⟩
   have zv4 := (hHeld.trans (hb4.mono hHeld.size)).size
   try go_simp
   refine hK.out _ _ ?_ (fun hHeld => ?_)
   · exact hHeld.trans (hb4.mono hHeld.size)
   clear hK K
   try simp only [Act.put, TA, TB, TC]
   refine TG (rs := [5]) (by kernel_rfl) (by simp) ?_
   refine TE rfl (fun K hK => ?_) (TF)
   go_simp
   go_at_call 30
   refine (given_sl sb sp A4 B4 c4 d4 xb mb _ (hs4) HXxb.out HMmb.out).mono ?_
   rintro e v5 ⟨A5, c5, B5, d5, rfl, hs5, -, hb5⟩
   have zv5 := (hHeld.trans (hb5.mono hHeld.size)).size
   try go_simp
   refine hK.out _ _ ?_ (fun hHeld => ?_)
   · exact hHeld.trans (hb5.mono hHeld.size)
   clear hK K
   try simp only [Act.put, TA, TB, TC]
   refine TG (rs := [6]) (by kernel_rfl) (by simp) ?_
   refine TE rfl (fun K hK => ?_) (TF)
   go_simp
   go_at_call 32
   refine (HJp.out _ _ _ _ _ _ _ _ _ (((hs2).below hb4).below hb5) (hs5)).mono ?_
   rintro e v9 ⟨CA, cc, CB, cd, rfl, ho9, hu9, hb9⟩
   have zv9 := (hHeld.trans (hb9.mono hHeld.size)).size
   try go_simp
   refine hK.out _ _ ?_ (fun hHeld => ?_)
   · exact hHeld.trans (hb9.mono hHeld.size)
   clear hK K
   try simp only [Act.put, TA, TB, TC]
   refine TD (i := 7) (oi := ⟨some 165, _, _, _, _, _⟩) (v := ?_) rfl (by kernel_rfl) (by kernel_rfl) (by kernel_rfl) (fun _ _ _ h => h) (Or.inl ⟨by kernel_rfl, ?_⟩) hHeld ?_
   rotate_left
   · intro w1 hSw; (try dsimp only at hSw); go_simp <;> with_reducible rfl
   try simp only [Act.put, TA, TB, TC]
   refine TD (i := 8) (oi := ⟨some 173, _, _, _, _, _⟩) (v := ?_) rfl (by kernel_rfl) (by kernel_rfl) (by kernel_rfl) (fun _ _ _ h => h) (Or.inl ⟨by kernel_rfl, ?_⟩) hHeld ?_
   rotate_left
   · intro w1 hSw; (try dsimp only at hSw); go_simp <;> with_reducible rfl
   try simp only [Act.put, TA, TB, TC]
   refine TD (i := 9) (oi := ⟨some 174, _, _, _, _, _⟩) (v := ?_) rfl (by kernel_rfl) (by kernel_rfl) (by kernel_rfl) (fun _ _ _ h => h) (Or.inl ⟨by kernel_rfl, ?_⟩) hHeld ?_
   rotate_left
   · intro w1 hSw; (try dsimp only at hSw); go_simp <;> with_reducible rfl
   try simp only [Act.put, TA, TB, TC]
   refine TG (rs := [11]) (by kernel_rfl) (by simp) ?_
   refine TE rfl (fun K hK => ?_) (TF)
   have hz := (((((Row.new W8.drew 91 zero4).old hb1).old hb2).old hb4).old hb5).old hb9
   have hg : W8.heap.size ≤ W8.heap.size := Nat.le_refl _
   refine step_store_row rfl 91 _ _ rfl W8.heap.size [.int .i64 sa, .int .i64 sp, .slice CA xab.length cc, .slice CB mab.length cd] rfl rfl 91 zero4 hz (by kernel_rfl) rfl (by simp [Value.oneCell']) ?_
   refine hK.out _ _ ?_ (fun hHeld => ?_)
   · exact Below.setRow hHeld hg _
   clear hK K
   try simp only [Act.put, TA, TB, TC]
   refine TD (i := 12) (oi := ⟨some 16, _, _, _, _, _⟩) (v := ?_) rfl (by kernel_rfl) (by kernel_rfl) (by kernel_rfl) (fun _ _ _ h => h) (Or.inl ⟨by kernel_rfl, ?_⟩) hHeld ?_
   rotate_left
   · intro w1 hSw; (try dsimp only at hSw); go_simp <;> with_reducible rfl
   try simp only [Act.put, TA, TB, TC]
   refine wpAnyH_done (by kernel_rfl) ?_ _
   go_wp2_with fail
   go_meet
   exact ⟨_, CA, cc, CB, cd, rfl, rfl, hz.setRow _, ⟨owned_rd (owns_far ho9 _ _ (by have q0 := hb1.size; have q1 := hb2.size; have q2 := hb4.size; have q3 := hb5.size; (simp at q0 q1 q2 q3 ⊢) <;> omega) (Nat.zero_le _)), owned_rd (owns_far hu9 _ _ (by have q0 := hb1.size; have q1 := hb2.size; have q2 := hb4.size; have q3 := hb5.size; (simp at q0 q1 q2 q3 ⊢) <;> omega) (Nat.zero_le _)), (own_cap ho9).2⟩, hHeld⟩
 case rest =>
 obtain ⟨gp, Ap, cp, Bp, dp, rfl, rfl, rk, sk, hb⟩ := hcut
 have HRp0 : Hid (RcR sp wc gp sa xab mab Ap Bp cp dp) := ⟨rk, sk⟩
 clear rk sk
 have HS' := Lib.hid (HS.out.keep hb)
 have HRa' := Lib.hid (HRa.out.below hb)
 have HRb' := Lib.hid (HRb.out.below hb)
 have HRc' := Lib.hid (HRc.out.below hb)
 clear HS HRa HRb HRc
 have HS := HS'; have HRa := HRa'; have HRb := HRb'; have HRc := HRc'
 clear HS' HRa' HRb' HRc'
 have HRp := HRp0
 clear HRp0 hb
 obtain ⟨W10, hW⟩ : ∃ W10 : World, W10 = wc := ⟨_, rfl⟩
 subst hW
 go_upto_region 11 with fail
 go_cut [17, 18] from 175 to 182 (fun s17 s18 wx => ∃ (g : Nat) (CA : Option Addr) (cc : Nat) (CB : Option Addr) (cd : Nat), s17 = .pointer (some ⟨g, 0, none⟩) ∧ s18 = .int .i64 0 ∧ Row wx g 91 [.int .i64 st, .int .i64 sp, .slice CA xs.length cc, .slice CB ms.length cd] ∧ SlOk wx CA cc xs CB ms ∧ Below W10.heap.size W10 wx)
 case first => as_aux_lemma =>
  refine wp_region_held_drew (S := fun V => Below W10.heap.size W10 V) (by kernel_rfl) ?_ (fun hHeld => ?_)
  · exact (Below.refl _ _).drew
  refine TD (i := 0) (oi := ⟨some 176, _, _, _, _, _⟩) (v := .agg #[.int .i64 sa, .int .i64 sp, .slice Ap xab.length cp, .slice Bp mab.length dp]) rfl (by kernel_rfl) (by kernel_rfl) (by kernel_rfl) (fun _ _ _ h => h) (Or.inl ⟨by kernel_rfl, fun V hV => ex_row2 91 _ rfl gp rfl 91 [.int .i64 sa, .int .i64 sp, .slice Ap xab.length cp, .slice Bp mab.length dp] _ Tryz.underlying91 rfl (by kernel_rfl) ((HRp.out.below hV).1)⟩) hHeld ?_
  try simp only [Act.put, TA, TB, TC]
  refine TD (i := 1) (oi := ⟨some 177, _, _, _, _, _⟩) (v := .agg #[.int .i64 sc, .int .i64 sp, .slice Ac xc.length cc, .slice Bc mc.length dc]) rfl (by kernel_rfl) (by kernel_rfl) (by kernel_rfl) (fun _ _ _ h => h) (Or.inl ⟨by kernel_rfl, fun V hV => ex_row2 91 _ rfl gc rfl 91 [.int .i64 sc, .int .i64 sp, .slice Ac xc.length cc, .slice Bc mc.length dc] _ Tryz.underlying91 rfl (by kernel_rfl) ((HRc.out.below hV).1)⟩) hHeld ?_
  try simp only [Act.put, TA, TB, TC]
  refine TG (rs := [2, 8]) (by kernel_rfl) (by simp) ?_
  refine TE rfl (fun K hK => ?_) (TE rfl (fun K hK => ?_) (TF))
  ·
   go_simp
   go_at_call 33
   refine (told_sl sc sp Ac Bc cc dc xc mc _ (HRc.out.below hHeld).2 HXxc.out HMmc.out).mono ?_
   rintro e v2 ⟨A2, c2, B2, d2, rfl, hs2, hb2⟩
   have zv2 := (hHeld.trans (hb2.mono hHeld.size)).size
   try go_simp
   refine hK.out _ _ ?_ (fun hHeld => ?_)
   · exact hHeld.trans (hb2.mono hHeld.size)
   clear hK K
   try simp only [Act.put, TA, TB, TC]
   refine TG (rs := [3, 8]) (by kernel_rfl) (by simp) ?_
   refine TE rfl (fun K hK => ?_) (TE rfl (fun K hK => ?_) (TF))
   ·
    go_simp
    go_at_call 30
    refine (given_sl sc sp A2 B2 c2 d2 xc mc _ (hs2) HXxc.out HMmc.out).mono ?_
    rintro e v3 ⟨A3, c3, B3, d3, rfl, hs3, -, hb3⟩
    have zv3 := (hHeld.trans (hb3.mono hHeld.size)).size
    try go_simp
    refine hK.out _ _ ?_ (fun hHeld => ?_)
    · exact hHeld.trans (hb3.mono hHeld.size)
    clear hK K
    try simp only [Act.put, TA, TB, TC]
    refine TG (rs := [4, 8]) (by kernel_rfl) (by simp) ?_
    refine TE rfl (fun K hK => ?_) (TE rfl (fun K hK => ?_) (TF))
    ·
     go_simp
     go_at_call 32
     refine (HJq.out _ _ _ _ _ _ _ _ _ (HRp.out.below hHeld).2 (hs3)).mono ?_
     rintro e v9 ⟨CA, cc, CB, cd, rfl, ho9, hu9, hb9⟩
     have zv9 := (hHeld.trans (hb9.mono hHeld.size)).size
     try go_simp
     refine hK.out _ _ ?_ (fun hHeld => ?_)
     · exact hHeld.trans (hb9.mono hHeld.size)
     clear hK K
     try simp only [Act.put, TA, TB, TC]
     refine TD (i := 5) (oi := ⟨some 175, _, _, _, _, _⟩) (v := ?_) rfl (by kernel_rfl) (by kernel_rfl) (by kernel_rfl) (fun _ _ _ h => h) (Or.inl ⟨by kernel_rfl, ?_⟩) hHeld ?_
     rotate_left
     · intro w1 hSw; (try dsimp only at hSw); go_simp <;> with_reducible rfl
     try simp only [Act.put, TA, TB, TC]
     refine TD (i := 6) (oi := ⟨some 181, _, _, _, _, _⟩) (v := ?_) rfl (by kernel_rfl) (by kernel_rfl) (by kernel_rfl) (fun _ _ _ h => h) (Or.inl ⟨by kernel_rfl, ?_⟩) hHeld ?_
     rotate_left
     · intro w1 hSw; (try dsimp only at hSw); go_simp <;> with_reducible rfl
     try simp only [Act.put, TA, TB, TC]
     refine TD (i := 7) (oi := ⟨some 182, _, _, _, _, _⟩) (v := ?_) rfl (by kernel_rfl) (by kernel_rfl) (by kernel_rfl) (fun _ _ _ h => h) (Or.inl ⟨by kernel_rfl, ?_⟩) hHeld ?_
     rotate_left
     · intro w1 hSw; (try dsimp only at hSw); go_simp <;> with_reducible rfl
     try simp only [Act.put, TA, TB, TC]
     refine TG (rs := [8]) (by kernel_rfl) (by simp) ?_
     refine TE rfl (fun K hK => ?_) (TF)
     go_simp
     refine hK.out _ _ ?_ (fun hHeld => ?_)
     · exact hHeld.alloc hHeld.size _
     clear hK K
     try simp only [Act.put, TA, TB, TC]
     refine TG (rs := [9]) (by kernel_rfl) (by simp) ?_
     refine TE rfl (fun K hK => ?_) (TF)
     have hz := Row.new v9 91 zero4
     have hg : W10.heap.size ≤ v9.heap.size := zv9
     refine step_store_row rfl 91 _ _ rfl v9.heap.size [.int .i64 st, .int .i64 sp, .slice CA xs.length cc, .slice CB ms.length cd] rfl rfl 91 zero4 hz (by kernel_rfl) rfl (by simp [Value.oneCell']) ?_
     refine hK.out _ _ ?_ (fun hHeld => ?_)
     · exact Below.setRow hHeld hg _
     clear hK K
     try simp only [Act.put, TA, TB, TC]
     refine TD (i := 10) (oi := ⟨some 18, _, _, _, _, _⟩) (v := ?_) rfl (by kernel_rfl) (by kernel_rfl) (by kernel_rfl) (fun _ _ _ h => h) (Or.inl ⟨by kernel_rfl, ?_⟩) hHeld ?_
     rotate_left
     · intro w1 hSw; (try dsimp only at hSw); go_simp <;> with_reducible rfl
     try simp only [Act.put, TA, TB, TC]
     refine wpAnyH_done (by kernel_rfl) ?_ _
     go_wp2_with fail
     go_meet
     exact ⟨_, CA, cc, CB, cd, rfl, rfl, hz.setRow _, ⟨owned_rd (owns_other v9.heap.size (ho9.alloc _) (fun j hj hne => setRow_other _ _ _ _ hne) (fun e => by have := (ho9.lt _ e).2; omega)), owned_rd (owns_other v9.heap.size (hu9.alloc _) (fun j hj hne => setRow_other _ _ _ _ hne) (fun e => by have := (hu9.lt _ e).2; omega)), (own_cap ho9).2⟩, hHeld⟩
    ·
     go_simp
     refine hK.out _ _ ?_ (fun hHeld => ?_)
     · exact hHeld.alloc hHeld.size _
     clear hK K
     try simp only [Act.put, TA, TB, TC]
     refine TG (rs := [4]) (by kernel_rfl) (by simp) ?_
     refine TE rfl (fun K hK => ?_) (TF)
     go_simp
     go_at_call 32
     refine (HJq.out _ _ _ _ _ _ _ _ _ (HRp.out.below hHeld).2 ((hs3).below ((Below.refl _ _).alloc (Nat.le_refl _) _))).mono ?_
     rintro e v9 ⟨CA, cc, CB, cd, rfl, ho9, hu9, hb9⟩
     have zv9 := (hHeld.trans (hb9.mono hHeld.size)).size
     try go_simp
     refine hK.out _ _ ?_ (fun hHeld => ?_)
     · exact hHeld.trans (hb9.mono hHeld.size)
     clear hK K
     try simp only [Act.put, TA, TB, TC]
     refine TD (i := 5) (oi := ⟨some 175, _, _, _, _, _⟩) (v := ?_) rfl (by kernel_rfl) (by kernel_rfl) (by kernel_rfl) (fun _ _ _ h => h) (Or.inl ⟨by kernel_rfl, ?_⟩) hHeld ?_
     rotate_left
     · intro w1 hSw; (try dsimp only at hSw); go_simp <;> with_reducible rfl
     try simp only [Act.put, TA, TB, TC]
     refine TD (i := 6) (oi := ⟨some 181, _, _, _, _, _⟩) (v := ?_) rfl (by kernel_rfl) (by kernel_rfl) (by kernel_rfl) (fun _ _ _ h => h) (Or.inl ⟨by kernel_rfl, ?_⟩) hHeld ?_
     rotate_left
     · intro w1 hSw; (try dsimp only at hSw); go_simp <;> with_reducible rfl
     try simp only [Act.put, TA, TB, TC]
     refine TD (i := 7) (oi := ⟨some 182, _, _, _, _, _⟩) (v := ?_) rfl (by kernel_rfl) (by kernel_rfl) (by kernel_rfl) (fun _ _ _ h => h) (Or.inl ⟨by kernel_rfl, ?_⟩) hHeld ?_
     rotate_left
     · intro w1 hSw; (try dsimp only at hSw); go_simp <;> with_reducible rfl
     try simp only [Act.put, TA, TB, TC]
     refine TG (rs := [9]) (by kernel_rfl) (by simp) ?_
     refine TE rfl (fun K hK => ?_) (TF)
     have hz := (Row.new v3 91 zero4).old hb9
     have hg : W10.heap.size ≤ v3.heap.size := zv3
     refine step_store_row rfl 91 _ _ rfl v3.heap.size [.int .i64 st, .int .i64 sp, .slice CA xs.length cc, .slice CB ms.length cd] rfl rfl 91 zero4 hz (by kernel_rfl) rfl (by simp [Value.oneCell']) ?_
     refine hK.out _ _ ?_ (fun hHeld => ?_)
     · exact Below.setRow hHeld hg _
     clear hK K
     try simp only [Act.put, TA, TB, TC]
     refine TD (i := 10) (oi := ⟨some 18, _, _, _, _, _⟩) (v := ?_) rfl (by kernel_rfl) (by kernel_rfl) (by kernel_rfl) (fun _ _ _ h => h) (Or.inl ⟨by kernel_rfl, ?_⟩) hHeld ?_
     rotate_left
     · intro w1 hSw; (try dsimp only at hSw); go_simp <;> with_reducible rfl
     try simp only [Act.put, TA, TB, TC]
     refine wpAnyH_done (by kernel_rfl) ?_ _
     go_wp2_with fail
     go_meet
     exact ⟨_, CA, cc, CB, cd, rfl, rfl, hz.setRow _, ⟨owned_rd (owns_far ho9 _ _ (by  (simp ) <;> omega) (Nat.zero_le _)), owned_rd (owns_far hu9 _ _ (by  (simp ) <;> omega) (Nat.zero_le _)), (own_cap ho9).2⟩, hHeld⟩
   ·
    go_simp
    refine hK.out _ _ ?_ (fun hHeld => ?_)
    · exact hHeld.alloc hHeld.size _
    clear hK K
    try simp only [Act.put, TA, TB, TC]
    refine TG (rs := [3]) (by kernel_rfl) (by simp) ?_
    refine TE rfl (fun K hK => ?_) (TF)
    go_simp
    go_at_call 30
    refine (given_sl sc sp A2 B2 c2 d2 xc mc _ ((hs2).below ((Below.refl _ _).alloc (Nat.le_refl _) _)) HXxc.out HMmc.out).mono ?_
    rintro e v3 ⟨A3, c3, B3, d3, rfl, hs3, -, hb3⟩
    have zv3 := (hHeld.trans (hb3.mono hHeld.size)).size
    try go_simp
    refine hK.out _ _ ?_ (fun hHeld => ?_)
    · exact hHeld.trans (hb3.mono hHeld.size)
    clear hK K
    try simp only [Act.put, TA, TB, TC]
    refine TG (rs := [4]) (by kernel_rfl) (by simp) ?_
    refine TE rfl (fun K hK => ?_) (TF)
    go_simp
    go_at_call 32
    refine (HJq.out _ _ _ _ _ _ _ _ _ (HRp.out.below hHeld).2 (hs3)).mono ?_
    rintro e v9 ⟨CA, cc, CB, cd, rfl, ho9, hu9, hb9⟩
    have zv9 := (hHeld.trans (hb9.mono hHeld.size)).size
    try go_simp
    refine hK.out _ _ ?_ (fun hHeld => ?_)
    · exact hHeld.trans (hb9.mono hHeld.size)
    clear hK K
    try simp only [Act.put, TA, TB, TC]
    refine TD (i := 5) (oi := ⟨some 175, _, _, _, _, _⟩) (v := ?_) rfl (by kernel_rfl) (by kernel_rfl) (by kernel_rfl) (fun _ _ _ h => h) (Or.inl ⟨by kernel_rfl, ?_⟩) hHeld ?_
    rotate_left
    · intro w1 hSw; (try dsimp only at hSw); go_simp <;> with_reducible rfl
    try simp only [Act.put, TA, TB, TC]
    refine TD (i := 6) (oi := ⟨some 181, _, _, _, _, _⟩) (v := ?_) rfl (by kernel_rfl) (by kernel_rfl) (by kernel_rfl) (fun _ _ _ h => h) (Or.inl ⟨by kernel_rfl, ?_⟩) hHeld ?_
    rotate_left
    · intro w1 hSw; (try dsimp only at hSw); go_simp <;> with_reducible rfl
    try simp only [Act.put, TA, TB, TC]
    refine TD (i := 7) (oi := ⟨some 182, _, _, _, _, _⟩) (v := ?_) rfl (by kernel_rfl) (by kernel_rfl) (by kernel_rfl) (fun _ _ _ h => h) (Or.inl ⟨by kernel_rfl, ?_⟩) hHeld ?_
    rotate_left
    · intro w1 hSw; (try dsimp only at hSw); go_simp <;> with_reducible rfl
    try simp only [Act.put, TA, TB, TC]
    refine TG (rs := [9]) (by kernel_rfl) (by simp) ?_
    refine TE rfl (fun K hK => ?_) (TF)
    have hz := ((Row.new v2 91 zero4).old hb3).old hb9
    have hg : W10.heap.size ≤ v2.heap.size := zv2
    refine step_store_row rfl 91 _ _ rfl v2.heap.size [.int .i64 st, .int .i64 sp, .slice CA xs.length cc, .slice CB ms.length cd] rfl rfl 91 zero4 hz (by kernel_rfl) rfl (by simp [Value.oneCell']) ?_
    refine hK.out _ _ ?_ (fun hHeld => ?_)
    · exact Below.setRow hHeld hg _
    clear hK K
    try simp only [Act.put, TA, TB, TC]
    refine TD (i := 10) (oi := ⟨some 18, _, _, _, _, _⟩) (v := ?_) rfl (by kernel_rfl) (by kernel_rfl) (by kernel_rfl) (fun _ _ _ h => h) (Or.inl ⟨by kernel_rfl, ?_⟩) hHeld ?_
    rotate_left
    · intro w1 hSw; (try dsimp only at hSw); go_simp <;> with_reducible rfl
    try simp only [Act.put, TA, TB, TC]
    refine wpAnyH_done (by kernel_rfl) ?_ _
    go_wp2_with fail
    go_meet
    exact ⟨_, CA, cc, CB, cd, rfl, rfl, hz.setRow _, ⟨owned_rd (owns_far ho9 _ _ (by have q0 := hb3.size; (simp at q0 ⊢) <;> omega) (Nat.zero_le _)), owned_rd (owns_far hu9 _ _ (by have q0 := hb3.size; (simp at q0 ⊢) <;> omega) (Nat.zero_le _)), (own_cap ho9).2⟩, hHeld⟩
  ·
   go_simp
   refine hK.out _ _ ?_ (fun hHeld => ?_)
   · exact hHeld.alloc hHeld.size _
   clear hK K
   try simp only [Act.put, TA, TB, TC]
   refine TG (rs := [2]) (by kernel_rfl) (by simp) ?_
   refine TE rfl (fun K hK => ?_) (TF)
   go_simp
   go_at_call 33
   refine (told_sl sc sp Ac Bc cc dc xc mc _ (HRc.out.below hHeld).2 HXxc.out HMmc.out).mono ?_
   rintro e v2 ⟨A2, c2, B2, d2, rfl, hs2, hb2⟩
   have zv2 := (hHeld.trans (hb2.mono hHeld.size)).size
   try go_simp
   refine hK.out _ _ ?_ (fun hHeld => ?_)
   · exact hHeld.trans (hb2.mono hHeld.size)
   clear hK K
   try simp only [Act.put, TA, TB, TC]
   refine TG (rs := [3]) (by kernel_rfl) (by simp) ?_
   refine TE rfl (fun K hK => ?_) (TF)
   go_simp
   go_at_call 30
   refine (given_sl sc sp A2 B2 c2 d2 xc mc _ (hs2) HXxc.out HMmc.out).mono ?_
   rintro e v3 ⟨A3, c3, B3, d3, rfl, hs3, -, hb3⟩
   have zv3 := (hHeld.trans (hb3.mono hHeld.size)).size
   try go_simp
   refine hK.out _ _ ?_ (fun hHeld => ?_)
   · exact hHeld.trans (hb3.mono hHeld.size)
   clear hK K
   try simp only [Act.put, TA, TB, TC]
   refine TG (rs := [4]) (by kernel_rfl) (by simp) ?_
   refine TE rfl (fun K hK => ?_) (TF)
   go_simp
   go_at_call 32
   refine (HJq.out _ _ _ _ _ _ _ _ _ (HRp.out.below hHeld).2 (hs3)).mono ?_
   rintro e v9 ⟨CA, cc, CB, cd, rfl, ho9, hu9, hb9⟩
   have zv9 := (hHeld.trans (hb9.mono hHeld.size)).size
   try go_simp
   refine hK.out _ _ ?_ (fun hHeld => ?_)
   · exact hHeld.trans (hb9.mono hHeld.size)
   clear hK K
   try simp only [Act.put, TA, TB, TC]
   refine TD (i := 5) (oi := ⟨some 175, _, _, _, _, _⟩) (v := ?_) rfl (by kernel_rfl) (by kernel_rfl) (by kernel_rfl) (fun _ _ _ h => h) (Or.inl ⟨by kernel_rfl, ?_⟩) hHeld ?_
   rotate_left
   · intro w1 hSw; (try dsimp only at hSw); go_simp <;> with_reducible rfl
   try simp only [Act.put, TA, TB, TC]
   refine TD (i := 6) (oi := ⟨some 181, _, _, _, _, _⟩) (v := ?_) rfl (by kernel_rfl) (by kernel_rfl) (by kernel_rfl) (fun _ _ _ h => h) (Or.inl ⟨by kernel_rfl, ?_⟩) hHeld ?_
   rotate_left
   · intro w1 hSw; (try dsimp only at hSw); go_simp <;> with_reducible rfl
   try simp only [Act.put, TA, TB, TC]
   refine TD (i := 7) (oi := ⟨some 182, _, _, _, _, _⟩) (v := ?_) rfl (by kernel_rfl) (by kernel_rfl) (by kernel_rfl) (fun _ _ _ h => h) (Or.inl ⟨by kernel_rfl, ?_⟩) hHeld ?_
   rotate_left
   · intro w1 hSw; (try dsimp only at hSw); go_simp <;> with_reducible rfl
   try simp only [Act.put, TA, TB, TC]
   refine TG (rs := [9]) (by kernel_rfl) (by simp) ?_
   refine TE rfl (fun K hK => ?_) (TF)
   have hz := (((Row.new W10.drew 91 zero4).old hb2).old hb3).old hb9
   have hg : W10.heap.size ≤ W10.heap.size := Nat.le_refl _
   refine step_store_row rfl 91 _ _ rfl W10.heap.size [.int .i64 st, .int .i64 sp, .slice CA xs.length cc, .slice CB ms.length cd] rfl rfl 91 zero4 hz (by kernel_rfl) rfl (by simp [Value.oneCell']) ?_
   refine hK.out _ _ ?_ (fun hHeld => ?_)
   · exact Below.setRow hHeld hg _
   clear hK K
   try simp only [Act.put, TA, TB, TC]
   refine TD (i := 10) (oi := ⟨some 18, _, _, _, _, _⟩) (v := ?_) rfl (by kernel_rfl) (by kernel_rfl) (by kernel_rfl) (fun _ _ _ h => h) (Or.inl ⟨by kernel_rfl, ?_⟩) hHeld ?_
   rotate_left
   · intro w1 hSw; (try dsimp only at hSw); go_simp <;> with_reducible rfl
   try simp only [Act.put, TA, TB, TC]
   refine wpAnyH_done (by kernel_rfl) ?_ _
   go_wp2_with fail
   go_meet
   exact ⟨_, CA, cc, CB, cd, rfl, rfl, hz.setRow _, ⟨owned_rd (owns_far ho9 _ _ (by have q0 := hb2.size; have q1 := hb3.size; (simp at q0 q1 ⊢) <;> omega) (Nat.zero_le _)), owned_rd (owns_far hu9 _ _ (by have q0 := hb2.size; have q1 := hb3.size; (simp at q0 q1 ⊢) <;> omega) (Nat.zero_le _)), (own_cap ho9).2⟩, hHeld⟩
 case rest =>
 obtain ⟨gq, Aq, cq, Bq, dq, rfl, rfl, rk, sk, hb⟩ := hcut
 have HRq0 : Hid (RcR sp wc gq st xs ms Aq Bq cq dq) := ⟨rk, sk⟩
 clear rk sk
 have HS' := Lib.hid (HS.out.keep hb)
 have HRa' := Lib.hid (HRa.out.below hb)
 have HRb' := Lib.hid (HRb.out.below hb)
 have HRc' := Lib.hid (HRc.out.below hb)
 have HRp' := Lib.hid (HRp.out.below hb)
 clear HS HRa HRb HRc HRp
 have HS := HS'; have HRa := HRa'; have HRb := HRb'; have HRc := HRc'; have HRp := HRp'
 clear HS' HRa' HRb' HRc' HRp'
 have HRq := HRq0
 clear HRq0 hb
 obtain ⟨W11, hW⟩ : ∃ W11 : World, W11 = wc := ⟨_, rfl⟩
 subst hW
 go_upto_region 12 with fail
 go_cut [19, 20] from 183 to 192 (fun s19 s20 wx => ∃ (g : Nat) (CA : Option Addr) (cc : Nat) (CB : Option Addr) (cd : Nat), s19 = .pointer (some ⟨g, 0, none⟩) ∧ s20 = .int .i64 0 ∧ Row wx g 91 [.int .i64 sb, .int .i64 sp, .slice CA xbc.length cc, .slice CB mbc.length cd] ∧ SlOk wx CA cc xbc CB mbc ∧ Below W11.heap.size W11 wx)
 case first => as_aux_lemma =>
  refine wp_region_held_drew (S := fun V => Below W11.heap.size W11 V) (by kernel_rfl) ?_ (fun hHeld => ?_)
  · exact (Below.refl _ _).drew
  refine TD (i := 0) (oi := ⟨some 184, _, _, _, _, _⟩) (v := .agg #[.int .i64 sb, .int .i64 sp, .slice Ab xb.length cb, .slice Bb mb.length db]) rfl (by kernel_rfl) (by kernel_rfl) (by kernel_rfl) (fun _ _ _ h => h) (Or.inl ⟨by kernel_rfl, fun V hV => ex_row2 91 _ rfl gb rfl 91 [.int .i64 sb, .int .i64 sp, .slice Ab xb.length cb, .slice Bb mb.length db] _ Tryz.underlying91 rfl (by kernel_rfl) ((HRb.out.below hV).1)⟩) hHeld ?_
  try simp only [Act.put, TA, TB, TC]
  refine TD (i := 3) (oi := ⟨some 187, _, _, _, _, _⟩) (v := .agg #[.int .i64 sc, .int .i64 sp, .slice Ac xc.length cc, .slice Bc mc.length dc]) rfl (by kernel_rfl) (by kernel_rfl) (by kernel_rfl) (fun _ _ _ h => h) (Or.inl ⟨by kernel_rfl, fun V hV => ex_row2 91 _ rfl gc rfl 91 [.int .i64 sc, .int .i64 sp, .slice Ac xc.length cc, .slice Bc mc.length dc] _ Tryz.underlying91 rfl (by kernel_rfl) ((HRc.out.below hV).1)⟩) hHeld ?_
  try simp only [Act.put, TA, TB, TC]
  refine TG (rs := [1, 10]) (by kernel_rfl) (by simp) ?_
  refine TE rfl (fun K hK => ?_) (TE rfl (fun K hK => ?_) (TF))
  ·
   go_simp
   go_at_call 33
   refine (told_sl sb sp Ab Bb cb db xb mb _ (HRb.out.below hHeld).2 HXxb.out HMmb.out).mono ?_
   rintro e v1 ⟨A1, c1, B1, d1, rfl, hs1, hb1⟩
   have zv1 := (hHeld.trans (hb1.mono hHeld.size)).size
   try go_simp
   refine hK.out _ _ ?_ (fun hHeld => ?_)
   · exact hHeld.trans (hb1.mono hHeld.size)
   clear hK K
   try simp only [Act.put, TA, TB, TC]
   refine TG (rs := [2, 10]) (by kernel_rfl) (by simp) ?_
   refine TE rfl (fun K hK => ?_) (TE rfl (fun K hK => ?_) (TF))
   ·
    go_simp
    go_at_call 30
    refine (given_sl sb sp A1 B1 c1 d1 xb mb _ (hs1) HXxb.out HMmb.out).mono ?_
    rintro e v2 ⟨A2, c2, B2, d2, rfl, hs2, -, hb2⟩
    have zv2 := (hHeld.trans (hb2.mono hHeld.size)).size
    try go_simp
    refine hK.out _ _ ?_ (fun hHeld => ?_)
    · exact hHeld.trans (hb2.mono hHeld.size)
    clear hK K
    try simp only [Act.put, TA, TB, TC]
    refine TG (rs := [4, 10]) (by kernel_rfl) (by simp) ?_
    refine TE rfl (fun K hK => ?_) (TE rfl (fun K hK => ?_) (TF))
    ·
     go_simp
     go_at_call 33
     refine (told_sl sc sp Ac Bc cc dc xc mc _ (HRc.out.below hHeld).2 HXxc.out HMmc.out).mono ?_
     rintro e v4 ⟨A4, c4, B4, d4, rfl, hs4, hb4⟩
     have zv4 := (hHeld.trans (hb4.mono hHeld.size)).size
     try go_simp
     refine hK.out _ _ ?_ (fun hHeld => ?_)
     · exact hHeld.trans (hb4.mono hHeld.size)
     clear hK K
     try simp only [Act.put, TA, TB, TC]
     refine TG (rs := [5, 10]) (by kernel_rfl) (by simp) ?_
     refine TE rfl (fun K hK => ?_) (TE rfl (fun K hK => ?_) (TF))
     ·
      go_simp
      go_at_call 30
      refine (given_sl sc sp A4 B4 c4 d4 xc mc _ (hs4) HXxc.out HMmc.out).mono ?_
      rintro e v5 ⟨A5, c5, B5, d5, rfl, hs5, -, hb5⟩
      have zv5 := (hHeld.trans (hb5.mono hHeld.size)).size
      try go_simp
      refine hK.out _ _ ?_ (fun hHeld => ?_)
      · exact hHeld.trans (hb5.mono hHeld.size)
      clear hK K
      try simp only [Act.put, TA, TB, TC]
      refine TG (rs := [6, 10]) (by kernel_rfl) (by simp) ?_
      refine TE rfl (fun K hK => ?_) (TE rfl (fun K hK => ?_) (TF))
      ·
       go_simp
       go_at_call 32
       refine (HJr.out _ _ _ _ _ _ _ _ _ (((hs2).below hb4).below hb5) (hs5)).mono ?_
       rintro e v9 ⟨CA, cc, CB, cd, rfl, ho9, hu9, hb9⟩
       have zv9 := (hHeld.trans (hb9.mono hHeld.size)).size
       try go_simp
       refine hK.out _ _ ?_ (fun hHeld => ?_)
       · exact hHeld.trans (hb9.mono hHeld.size)
       clear hK K
       try simp only [Act.put, TA, TB, TC]
       refine TD (i := 7) (oi := ⟨some 183, _, _, _, _, _⟩) (v := ?_) rfl (by kernel_rfl) (by kernel_rfl) (by kernel_rfl) (fun _ _ _ h => h) (Or.inl ⟨by kernel_rfl, ?_⟩) hHeld ?_
       rotate_left
       · intro w1 hSw; (try dsimp only at hSw); go_simp <;> with_reducible rfl
       try simp only [Act.put, TA, TB, TC]
       refine TD (i := 8) (oi := ⟨some 191, _, _, _, _, _⟩) (v := ?_) rfl (by kernel_rfl) (by kernel_rfl) (by kernel_rfl) (fun _ _ _ h => h) (Or.inl ⟨by kernel_rfl, ?_⟩) hHeld ?_
       rotate_left
       · intro w1 hSw; (try dsimp only at hSw); go_simp <;> with_reducible rfl
       try simp only [Act.put, TA, TB, TC]
       refine TD (i := 9) (oi := ⟨some 192, _, _, _, _, _⟩) (v := ?_) rfl (by kernel_rfl) (by kernel_rfl) (by kernel_rfl) (fun _ _ _ h => h) (Or.inl ⟨by kernel_rfl, ?_⟩) hHeld ?_
       rotate_left
       · intro w1 hSw; (try dsimp only at hSw); go_simp <;> with_reducible rfl
       try simp only [Act.put, TA, TB, TC]
       refine TG (rs := [10]) (by kernel_rfl) (by simp) ?_
       refine TE rfl (fun K hK => ?_) (TF)
       go_simp
       refine hK.out _ _ ?_ (fun hHeld => ?_)
       · exact hHeld.alloc hHeld.size _
       clear hK K
       try simp only [Act.put, TA, TB, TC]
       refine TG (rs := [11]) (by kernel_rfl) (by simp) ?_
       refine TE rfl (fun K hK => ?_) (TF)
       have hz := Row.new v9 91 zero4
       have hg : W11.heap.size ≤ v9.heap.size := zv9
       refine step_store_row rfl 91 _ _ rfl v9.heap.size [.int .i64 sb, .int .i64 sp, .slice CA xbc.length cc, .slice CB mbc.length cd] rfl rfl 91 zero4 hz (by kernel_rfl) rfl (by simp [Value.oneCell']) ?_
       refine hK.out _ _ ?_ (fun hHeld => ?_)
       · exact Below.setRow hHeld hg _
       clear hK K
       try simp only [Act.put, TA, TB, TC]
       refine TD (i := 12) (oi := ⟨some 20, _, _, _, _, _⟩) (v := ?_) rfl (by kernel_rfl) (by kernel_rfl) (by kernel_rfl) (fun _ _ _ h => h) (Or.inl ⟨by kernel_rfl, ?_⟩) hHeld ?_
       rotate_left
       · intro w1 hSw; (try dsimp only at hSw); go_simp <;> with_reducible rfl
       try simp only [Act.put, TA, TB, TC]
       refine wpAnyH_done (by kernel_rfl) ?_ _
       go_wp2_with fail
       go_meet
       exact ⟨_, CA, cc, CB, cd, rfl, rfl, hz.setRow _, ⟨owned_rd (owns_other v9.heap.size (ho9.alloc _) (fun j hj hne => setRow_other _ _ _ _ hne) (fun e => by have := (ho9.lt _ e).2; omega)), owned_rd (owns_other v9.heap.size (hu9.alloc _) (fun j hj hne => setRow_other _ _ _ _ hne) (fun e => by have := (hu9.lt _ e).2; omega)), (own_cap ho9).2⟩, hHeld⟩
      ·
       go_simp
       refine hK.out _ _ ?_ (fun hHeld => ?_)
       · exact hHeld.alloc hHeld.size _
       clear hK K
       try simp only [Act.put, TA, TB, TC]
       refine TG (rs := [6]) (by kernel_rfl) (by simp) ?_
       refine TE rfl (fun K hK => ?_) (TF)
       go_simp
       go_at_call 32
       refine (HJr.out _ _ _ _ _ _ _ _ _ ((((hs2).below hb4).below hb5).below ((Below.refl _ _).alloc (Nat.le_refl _) _)) ((hs5).below ((Below.refl _ _).alloc (Nat.le_refl _) _))).mono ?_
       rintro e v9 ⟨CA, cc, CB, cd, rfl, ho9, hu9, hb9⟩
       have zv9 := (hHeld.trans (hb9.mono hHeld.size)).size
       try go_simp
       refine hK.out _ _ ?_ (fun hHeld => ?_)
       · exact hHeld.trans (hb9.mono hHeld.size)
       clear hK K
       try simp only [Act.put, TA, TB, TC]
       refine TD (i := 7) (oi := ⟨some 183, _, _, _, _, _⟩) (v := ?_) rfl (by kernel_rfl) (by kernel_rfl) (by kernel_rfl) (fun _ _ _ h => h) (Or.inl ⟨by kernel_rfl, ?_⟩) hHeld ?_
       rotate_left
       · intro w1 hSw; (try dsimp only at hSw); go_simp <;> with_reducible rfl
       try simp only [Act.put, TA, TB, TC]
       refine TD (i := 8) (oi := ⟨some 191, _, _, _, _, _⟩) (v := ?_) rfl (by kernel_rfl) (by kernel_rfl) (by kernel_rfl) (fun _ _ _ h => h) (Or.inl ⟨by kernel_rfl, ?_⟩) hHeld ?_
       rotate_left
       · intro w1 hSw; (try dsimp only at hSw); go_simp <;> with_reducible rfl
       try simp only [Act.put, TA, TB, TC]
       refine TD (i := 9) (oi := ⟨some 192, _, _, _, _, _⟩) (v := ?_) rfl (by kernel_rfl) (by kernel_rfl) (by kernel_rfl) (fun _ _ _ h => h) (Or.inl ⟨by kernel_rfl, ?_⟩) hHeld ?_
       rotate_left
       · intro w1 hSw; (try dsimp only at hSw); go_simp <;> with_reducible rfl
       try simp only [Act.put, TA, TB, TC]
       refine TG (rs := [11]) (by kernel_rfl) (by simp) ?_
       refine TE rfl (fun K hK => ?_) (TF)
       have hz := (Row.new v5 91 zero4).old hb9
       have hg : W11.heap.size ≤ v5.heap.size := zv5
       refine step_store_row rfl 91 _ _ rfl v5.heap.size [.int .i64 sb, .int .i64 sp, .slice CA xbc.length cc, .slice CB mbc.length cd] rfl rfl 91 zero4 hz (by kernel_rfl) rfl (by simp [Value.oneCell']) ?_
       refine hK.out _ _ ?_ (fun hHeld => ?_)
       · exact Below.setRow hHeld hg _
       clear hK K
       try simp only [Act.put, TA, TB, TC]
       refine TD (i := 12) (oi := ⟨some 20, _, _, _, _, _⟩) (v := ?_) rfl (by kernel_rfl) (by kernel_rfl) (by kernel_rfl) (fun _ _ _ h => h) (Or.inl ⟨by kernel_rfl, ?_⟩) hHeld ?_
       rotate_left
       · intro w1 hSw; (try dsimp only at hSw); go_simp <;> with_reducible rfl
       try simp only [Act.put, TA, TB, TC]
       refine wpAnyH_done (by kernel_rfl) ?_ _
       go_wp2_with fail
       go_meet
       exact ⟨_, CA, cc, CB, cd, rfl, rfl, hz.setRow _, ⟨owned_rd (owns_far ho9 _ _ (by  (simp ) <;> omega) (Nat.zero_le _)), owned_rd (owns_far hu9 _ _ (by  (simp ) <;> omega) (Nat.zero_le _)), (own_cap ho9).2⟩, hHeld⟩
     ·
      go_simp
      refine hK.out _ _ ?_ (fun hHeld => ?_)
      · exact hHeld.alloc hHeld.size _
      clear hK K
      try simp only [Act.put, TA, TB, TC]
      refine TG (rs := [5]) (by kernel_rfl) (by simp) ?_
      refine TE rfl (fun K hK => ?_) (TF)
      go_simp
      go_at_call 30
      refine (given_sl sc sp A4 B4 c4 d4 xc mc _ ((hs4).below ((Below.refl _ _).alloc (Nat.le_refl _) _)) HXxc.out HMmc.out).mono ?_
      rintro e v5 ⟨A5, c5, B5, d5, rfl, hs5, -, hb5⟩
      have zv5 := (hHeld.trans (hb5.mono hHeld.size)).size
      try go_simp
      refine hK.out _ _ ?_ (fun hHeld => ?_)
      · exact hHeld.trans (hb5.mono hHeld.size)
      clear hK K
      try simp only [Act.put, TA, TB, TC]
      refine TG (rs := [6]) (by kernel_rfl) (by simp) ?_
      refine TE rfl (fun K hK => ?_) (TF)
      go_simp
      go_at_call 32
      refine (HJr.out _ _ _ _ _ _ _ _ _ ((((hs2).below hb4).below ((Below.refl _ _).alloc (Nat.le_refl _) _)).below hb5) (hs5)).mono ?_
      rintro e v9 ⟨CA, cc, CB, cd, rfl, ho9, hu9, hb9⟩
      have zv9 := (hHeld.trans (hb9.mono hHeld.size)).size
      try go_simp
      refine hK.out _ _ ?_ (fun hHeld => ?_)
      · exact hHeld.trans (hb9.mono hHeld.size)
      clear hK K
      try simp only [Act.put, TA, TB, TC]
      refine TD (i := 7) (oi := ⟨some 183, _, _, _, _, _⟩) (v := ?_) rfl (by kernel_rfl) (by kernel_rfl) (by kernel_rfl) (fun _ _ _ h => h) (Or.inl ⟨by kernel_rfl, ?_⟩) hHeld ?_
      rotate_left
      · intro w1 hSw; (try dsimp only at hSw); go_simp <;> with_reducible rfl
      try simp only [Act.put, TA, TB, TC]
      refine TD (i := 8) (oi := ⟨some 191, _, _, _, _, _⟩) (v := ?_) rfl (by kernel_rfl) (by kernel_rfl) (by kernel_rfl) (fun _ _ _ h => h) (Or.inl ⟨by kernel_rfl, ?_⟩) hHeld ?_
      rotate_left
      · intro w1 hSw; (try dsimp only at hSw); go_simp <;> with_reducible rfl
      try simp only [Act.put, TA, TB, TC]
      refine TD (i := 9) (oi := ⟨some 192, _, _, _, _, _⟩) (v := ?_) rfl (by kernel_rfl) (by kernel_rfl) (by kernel_rfl) (fun _ _ _ h => h) (Or.inl ⟨by kernel_rfl, ?_⟩) hHeld ?_
      rotate_left
      · intro w1 hSw; (try dsimp only at hSw); go_simp <;> with_reducible rfl
      try simp only [Act.put, TA, TB, TC]
      refine TG (rs := [11]) (by kernel_rfl) (by simp) ?_
      refine TE rfl (fun K hK => ?_) (TF)
      have hz := ((Row.new v4 91 zero4).old hb5).old hb9
      have hg : W11.heap.size ≤ v4.heap.size := zv4
      refine step_store_row rfl 91 _ _ rfl v4.heap.size [.int .i64 sb, .int .i64 sp, .slice CA xbc.length cc, .slice CB mbc.length cd] rfl rfl 91 zero4 hz (by kernel_rfl) rfl (by simp [Value.oneCell']) ?_
      refine hK.out _ _ ?_ (fun hHeld => ?_)
      · exact Below.setRow hHeld hg _
      clear hK K
      try simp only [Act.put, TA, TB, TC]
      refine TD (i := 12) (oi := ⟨some 20, _, _, _, _, _⟩) (v := ?_) rfl (by kernel_rfl) (by kernel_rfl) (by kernel_rfl) (fun _ _ _ h => h) (Or.inl ⟨by kernel_rfl, ?_⟩) hHeld ?_
      rotate_left
      · intro w1 hSw; (try dsimp only at hSw); go_simp <;> with_reducible rfl
      try simp only [Act.put, TA, TB, TC]
      refine wpAnyH_done (by kernel_rfl) ?_ _
      go_wp2_with fail
      go_meet
      exact ⟨_, CA, cc, CB, cd, rfl, rfl, hz.setRow _, ⟨owned_rd (owns_far ho9 _ _ (by have q0 := hb5.size; (simp at q0 ⊢) <;> omega) (Nat.zero_le _)), owned_rd (owns_far hu9 _ _ (by have q0 := hb5.size; (simp at q0 ⊢) <;> omega) (Nat.zero_le _)), (own_cap ho9).2⟩, hHeld⟩
    ·
     go_simp
     refine hK.out _ _ ?_ (fun hHeld => ?_)
     · exact hHeld.alloc hHeld.size _
     clear hK K
     try simp only [Act.put, TA, TB, TC]
     refine TG (rs := [4]) (by kernel_rfl) (by simp) ?_
     refine TE rfl (fun K hK => ?_) (TF)
     go_simp
     go_at_call 33
     refine (told_sl sc sp Ac Bc cc dc xc mc _ (HRc.out.below hHeld).2 HXxc.out HMmc.out).mono ?_
     rintro e v4 ⟨A4, c4, B4, d4, rfl, hs4, hb4⟩
     have zv4 := (hHeld.trans (hb4.mono hHeld.size)).size
     try go_simp
     refine hK.out _ _ ?_ (fun hHeld => ?_)
     · exact hHeld.trans (hb4.mono hHeld.size)
     clear hK K
     try simp only [Act.put, TA, TB, TC]
     refine TG (rs := [5]) (by kernel_rfl) (by simp) ?_
     refine TE rfl (fun K hK => ?_) (TF)
     go_simp
     go_at_call 30
     refine (given_sl sc sp A4 B4 c4 d4 xc mc _ (hs4) HXxc.out HMmc.out).mono ?_
     rintro e v5 ⟨A5, c5, B5, d5, rfl, hs5, -, hb5⟩
     have zv5 := (hHeld.trans (hb5.mono hHeld.size)).size
     try go_simp
     refine hK.out _ _ ?_ (fun hHeld => ?_)
     · exact hHeld.trans (hb5.mono hHeld.size)
     clear hK K
     try simp only [Act.put, TA, TB, TC]
     refine TG (rs := [6]) (by kernel_rfl) (by simp) ?_
     refine TE rfl (fun K hK => ?_) (TF)
     go_simp
     go_at_call 32
     refine (HJr.out _ _ _ _ _ _ _ _ _ ((((hs2).below ((Below.refl _ _).alloc (Nat.le_refl _) _)).below hb4).below hb5) (hs5)).mono ?_
     rintro e v9 ⟨CA, cc, CB, cd, rfl, ho9, hu9, hb9⟩
     have zv9 := (hHeld.trans (hb9.mono hHeld.size)).size
     try go_simp
     refine hK.out _ _ ?_ (fun hHeld => ?_)
     · exact hHeld.trans (hb9.mono hHeld.size)
     clear hK K
     try simp only [Act.put, TA, TB, TC]
     refine TD (i := 7) (oi := ⟨some 183, _, _, _, _, _⟩) (v := ?_) rfl (by kernel_rfl) (by kernel_rfl) (by kernel_rfl) (fun _ _ _ h => h) (Or.inl ⟨by kernel_rfl, ?_⟩) hHeld ?_
     rotate_left
     · intro w1 hSw; (try dsimp only at hSw); go_simp <;> with_reducible rfl
     try simp only [Act.put, TA, TB, TC]
     refine TD (i := 8) (oi := ⟨some 191, _, _, _, _, _⟩) (v := ?_) rfl (by kernel_rfl) (by kernel_rfl) (by kernel_rfl) (fun _ _ _ h => h) (Or.inl ⟨by kernel_rfl, ?_⟩) hHeld ?_
     rotate_left
     · intro w1 hSw; (try dsimp only at hSw); go_simp <;> with_reducible rfl
     try simp only [Act.put, TA, TB, TC]
     refine TD (i := 9) (oi := ⟨some 192, _, _, _, _, _⟩) (v := ?_) rfl (by kernel_rfl) (by kernel_rfl) (by kernel_rfl) (fun _ _ _ h => h) (Or.inl ⟨by kernel_rfl, ?_⟩) hHeld ?_
     rotate_left
     · intro w1 hSw; (try dsimp only at hSw); go_simp <;> with_reducible rfl
     try simp only [Act.put, TA, TB, TC]
     refine TG (rs := [11]) (by kernel_rfl) (by simp) ?_
     refine TE rfl (fun K hK => ?_) (TF)
     have hz := (((Row.new v2 91 zero4).old hb4).old hb5).old hb9
     have hg : W11.heap.size ≤ v2.heap.size := zv2
     refine step_store_row rfl 91 _ _ rfl v2.heap.size [.int .i64 sb, .int .i64 sp, .slice CA xbc.length cc, .slice CB mbc.length cd] rfl rfl 91 zero4 hz (by kernel_rfl) rfl (by simp [Value.oneCell']) ?_
     refine hK.out _ _ ?_ (fun hHeld => ?_)
     · exact Below.setRow hHeld hg _
     clear hK K
     try simp only [Act.put, TA, TB, TC]
     refine TD (i := 12) (oi := ⟨some 20, _, _, _, _, _⟩) (v := ?_) rfl (by kernel_rfl) (by kernel_rfl) (by kernel_rfl) (fun _ _ _ h => h) (Or.inl ⟨by kernel_rfl, ?_⟩) hHeld ?_
     rotate_left
     · intro w1 hSw; (try dsimp only at hSw); go_simp <;> with_reducible rfl
     try simp only [Act.put, TA, TB, TC]
     refine wpAnyH_done (by kernel_rfl) ?_ _
     go_wp2_with fail
     go_meet
     exact ⟨_, CA, cc, CB, cd, rfl, rfl, hz.setRow _, ⟨owned_rd (owns_far ho9 _ _ (by have q0 := hb4.size; have q1 := hb5.size; (simp at q0 q1 ⊢) <;> omega) (Nat.zero_le _)), owned_rd (owns_far hu9 _ _ (by have q0 := hb4.size; have q1 := hb5.size; (simp at q0 q1 ⊢) <;> omega) (Nat.zero_le _)), (own_cap ho9).2⟩, hHeld⟩
   ·
    go_simp
    refine hK.out _ _ ?_ (fun hHeld => ?_)
    · exact hHeld.alloc hHeld.size _
    clear hK K
    try simp only [Act.put, TA, TB, TC]
    refine TG (rs := [2]) (by kernel_rfl) (by simp) ?_
    refine TE rfl (fun K hK => ?_) (TF)
    go_simp
    go_at_call 30
    refine (given_sl sb sp A1 B1 c1 d1 xb mb _ ((hs1).below ((Below.refl _ _).alloc (Nat.le_refl _) _)) HXxb.out HMmb.out).mono ?_
    rintro e v2 ⟨A2, c2, B2, d2, rfl, hs2, -, hb2⟩
    have zv2 := (hHeld.trans (hb2.mono hHeld.size)).size
    try go_simp
    refine hK.out _ _ ?_ (fun hHeld => ?_)
    · exact hHeld.trans (hb2.mono hHeld.size)
    clear hK K
    try simp only [Act.put, TA, TB, TC]
    refine TG (rs := [4]) (by kernel_rfl) (by simp) ?_
    refine TE rfl (fun K hK => ?_) (TF)
    go_simp
    go_at_call 33
    refine (told_sl sc sp Ac Bc cc dc xc mc _ (HRc.out.below hHeld).2 HXxc.out HMmc.out).mono ?_
    rintro e v4 ⟨A4, c4, B4, d4, rfl, hs4, hb4⟩
    have zv4 := (hHeld.trans (hb4.mono hHeld.size)).size
    try go_simp
    refine hK.out _ _ ?_ (fun hHeld => ?_)
    · exact hHeld.trans (hb4.mono hHeld.size)
    clear hK K
    try simp only [Act.put, TA, TB, TC]
    refine TG (rs := [5]) (by kernel_rfl) (by simp) ?_
    refine TE rfl (fun K hK => ?_) (TF)
    go_simp
    go_at_call 30
    refine (given_sl sc sp A4 B4 c4 d4 xc mc _ (hs4) HXxc.out HMmc.out).mono ?_
    rintro e v5 ⟨A5, c5, B5, d5, rfl, hs5, -, hb5⟩
    have zv5 := (hHeld.trans (hb5.mono hHeld.size)).size
    try go_simp
    refine hK.out _ _ ?_ (fun hHeld => ?_)
    · exact hHeld.trans (hb5.mono hHeld.size)
    clear hK K
    try simp only [Act.put, TA, TB, TC]
    refine TG (rs := [6]) (by kernel_rfl) (by simp) ?_
    refine TE rfl (fun K hK => ?_) (TF)
    go_simp
    go_at_call 32
    refine (HJr.out _ _ _ _ _ _ _ _ _ (((hs2).below hb4).below hb5) (hs5)).mono ?_
    rintro e v9 ⟨CA, cc, CB, cd, rfl, ho9, hu9, hb9⟩
    have zv9 := (hHeld.trans (hb9.mono hHeld.size)).size
    try go_simp
    refine hK.out _ _ ?_ (fun hHeld => ?_)
    · exact hHeld.trans (hb9.mono hHeld.size)
    clear hK K
    try simp only [Act.put, TA, TB, TC]
    refine TD (i := 7) (oi := ⟨some 183, _, _, _, _, _⟩) (v := ?_) rfl (by kernel_rfl) (by kernel_rfl) (by kernel_rfl) (fun _ _ _ h => h) (Or.inl ⟨by kernel_rfl, ?_⟩) hHeld ?_
    rotate_left
    · intro w1 hSw; (try dsimp only at hSw); go_simp <;> with_reducible rfl
    try simp only [Act.put, TA, TB, TC]
    refine TD (i := 8) (oi := ⟨some 191, _, _, _, _, _⟩) (v := ?_) rfl (by kernel_rfl) (by kernel_rfl) (by kernel_rfl) (fun _ _ _ h => h) (Or.inl ⟨by kernel_rfl, ?_⟩) hHeld ?_
    rotate_left
    · intro w1 hSw; (try dsimp only at hSw); go_simp <;> with_reducible rfl
    try simp only [Act.put, TA, TB, TC]
    refine TD (i := 9) (oi := ⟨some 192, _, _, _, _, _⟩) (v := ?_) rfl (by kernel_rfl) (by kernel_rfl) (by kernel_rfl) (fun _ _ _ h => h) (Or.inl ⟨by kernel_rfl, ?_⟩) hHeld ?_
    rotate_left
    · intro w1 hSw; (try dsimp only at hSw); go_simp <;> with_reducible rfl
    try simp only [Act.put, TA, TB, TC]
    refine TG (rs := [11]) (by kernel_rfl) (by simp) ?_
    refine TE rfl (fun K hK => ?_) (TF)
    have hz := ((((Row.new v1 91 zero4).old hb2).old hb4).old hb5).old hb9
    have hg : W11.heap.size ≤ v1.heap.size := zv1
    refine step_store_row rfl 91 _ _ rfl v1.heap.size [.int .i64 sb, .int .i64 sp, .slice CA xbc.length cc, .slice CB mbc.length cd] rfl rfl 91 zero4 hz (by kernel_rfl) rfl (by simp [Value.oneCell']) ?_
    refine hK.out _ _ ?_ (fun hHeld => ?_)
    · exact Below.setRow hHeld hg _
    clear hK K
    try simp only [Act.put, TA, TB, TC]
    refine TD (i := 12) (oi := ⟨some 20, _, _, _, _, _⟩) (v := ?_) rfl (by kernel_rfl) (by kernel_rfl) (by kernel_rfl) (fun _ _ _ h => h) (Or.inl ⟨by kernel_rfl, ?_⟩) hHeld ?_
    rotate_left
    · intro w1 hSw; (try dsimp only at hSw); go_simp <;> with_reducible rfl
    try simp only [Act.put, TA, TB, TC]
    refine wpAnyH_done (by kernel_rfl) ?_ _
    go_wp2_with fail
    go_meet
    exact ⟨_, CA, cc, CB, cd, rfl, rfl, hz.setRow _, ⟨owned_rd (owns_far ho9 _ _ (by have q0 := hb2.size; have q1 := hb4.size; have q2 := hb5.size; (simp at q0 q1 q2 ⊢) <;> omega) (Nat.zero_le _)), owned_rd (owns_far hu9 _ _ (by have q0 := hb2.size; have q1 := hb4.size; have q2 := hb5.size; (simp at q0 q1 q2 ⊢) <;> omega) (Nat.zero_le _)), (own_cap ho9).2⟩, hHeld⟩
  ·
   go_simp
   refine hK.out _ _ ?_ (fun hHeld => ?_)
   · exact hHeld.alloc hHeld.size _
   clear hK K
   try simp only [Act.put, TA, TB, TC]
   refine TG (rs := [1]) (by kernel_rfl) (by simp) ?_
   refine TE rfl (fun K hK => ?_) (TF)
   go_simp
   go_at_call 33
   refine (told_sl sb sp Ab Bb cb db xb mb _ (HRb.out.below hHeld).2 HXxb.out HMmb.out).mono ?_
   rintro e v1 ⟨A1, c1, B1, d1, rfl, hs1, hb1⟩
   have zv1 := (hHeld.trans (hb1.mono hHeld.size)).size
   try go_simp
   refine hK.out _ _ ?_ (fun hHeld => ?_)
   · exact hHeld.trans (hb1.mono hHeld.size)
   clear hK K
   try simp only [Act.put, TA, TB, TC]
   refine TG (rs := [2]) (by kernel_rfl) (by simp) ?_
   refine TE rfl (fun K hK => ?_) (TF)
   go_simp
   go_at_call 30
   refine (given_sl sb sp A1 B1 c1 d1 xb mb _ (hs1) HXxb.out HMmb.out).mono ?_
   rintro e v2 ⟨A2, c2, B2, d2, rfl, hs2, -, hb2⟩
   have zv2 := (hHeld.trans (hb2.mono hHeld.size)).size
   try go_simp
   refine hK.out _ _ ?_ (fun hHeld => ?_)
   · exact hHeld.trans (hb2.mono hHeld.size)
   clear hK K
   try simp only [Act.put, TA, TB, TC]
   refine TG (rs := [4]) (by kernel_rfl) (by simp) ?_
   refine TE rfl (fun K hK => ?_) (TF)
   go_simp
   go_at_call 33
   refine (told_sl sc sp Ac Bc cc dc xc mc _ (HRc.out.below hHeld).2 HXxc.out HMmc.out).mono ?_
   rintro e v4 ⟨A4, c4, B4, d4, rfl, hs4, hb4⟩
   have zv4 := (hHeld.trans (hb4.mono hHeld.size)).size
   try go_simp
   refine hK.out _ _ ?_ (fun hHeld => ?_)
   · exact hHeld.trans (hb4.mono hHeld.size)
   clear hK K
   try simp only [Act.put, TA, TB, TC]
   refine TG (rs := [5]) (by kernel_rfl) (by simp) ?_
   refine TE rfl (fun K hK => ?_) (TF)
   go_simp
   go_at_call 30
   refine (given_sl sc sp A4 B4 c4 d4 xc mc _ (hs4) HXxc.out HMmc.out).mono ?_
   rintro e v5 ⟨A5, c5, B5, d5, rfl, hs5, -, hb5⟩
   have zv5 := (hHeld.trans (hb5.mono hHeld.size)).size
   try go_simp
   refine hK.out _ _ ?_ (fun hHeld => ?_)
   · exact hHeld.trans (hb5.mono hHeld.size)
   clear hK K
   try simp only [Act.put, TA, TB, TC]
   refine TG (rs := [6]) (by kernel_rfl) (by simp) ?_
   refine TE rfl (fun K hK => ?_) (TF)
   go_simp
   go_at_call 32
   refine (HJr.out _ _ _ _ _ _ _ _ _ (((hs2).below hb4).below hb5) (hs5)).mono ?_
   rintro e v9 ⟨CA, cc, CB, cd, rfl, ho9, hu9, hb9⟩
   have zv9 := (hHeld.trans (hb9.mono hHeld.size)).size
   try go_simp
   refine hK.out _ _ ?_ (fun hHeld => ?_)
   · exact hHeld.trans (hb9.mono hHeld.size)
   clear hK K
   try simp only [Act.put, TA, TB, TC]
   refine TD (i := 7) (oi := ⟨some 183, _, _, _, _, _⟩) (v := ?_) rfl (by kernel_rfl) (by kernel_rfl) (by kernel_rfl) (fun _ _ _ h => h) (Or.inl ⟨by kernel_rfl, ?_⟩) hHeld ?_
   rotate_left
   · intro w1 hSw; (try dsimp only at hSw); go_simp <;> with_reducible rfl
   try simp only [Act.put, TA, TB, TC]
   refine TD (i := 8) (oi := ⟨some 191, _, _, _, _, _⟩) (v := ?_) rfl (by kernel_rfl) (by kernel_rfl) (by kernel_rfl) (fun _ _ _ h => h) (Or.inl ⟨by kernel_rfl, ?_⟩) hHeld ?_
   rotate_left
   · intro w1 hSw; (try dsimp only at hSw); go_simp <;> with_reducible rfl
   try simp only [Act.put, TA, TB, TC]
   refine TD (i := 9) (oi := ⟨some 192, _, _, _, _, _⟩) (v := ?_) rfl (by kernel_rfl) (by kernel_rfl) (by kernel_rfl) (fun _ _ _ h => h) (Or.inl ⟨by kernel_rfl, ?_⟩) hHeld ?_
   rotate_left
   · intro w1 hSw; (try dsimp only at hSw); go_simp <;> with_reducible rfl
   try simp only [Act.put, TA, TB, TC]
   refine TG (rs := [11]) (by kernel_rfl) (by simp) ?_
   refine TE rfl (fun K hK => ?_) (TF)
   have hz := (((((Row.new W11.drew 91 zero4).old hb1).old hb2).old hb4).old hb5).old hb9
   have hg : W11.heap.size ≤ W11.heap.size := Nat.le_refl _
   refine step_store_row rfl 91 _ _ rfl W11.heap.size [.int .i64 sb, .int .i64 sp, .slice CA xbc.length cc, .slice CB mbc.length cd] rfl rfl 91 zero4 hz (by kernel_rfl) rfl (by simp [Value.oneCell']) ?_
   refine hK.out _ _ ?_ (fun hHeld => ?_)
   · exact Below.setRow hHeld hg _
   clear hK K
   try simp only [Act.put, TA, TB, TC]
   refine TD (i := 12) (oi := ⟨some 20, _, _, _, _, _⟩) (v := ?_) rfl (by kernel_rfl) (by kernel_rfl) (by kernel_rfl) (fun _ _ _ h => h) (Or.inl ⟨by kernel_rfl, ?_⟩) hHeld ?_
   rotate_left
   · intro w1 hSw; (try dsimp only at hSw); go_simp <;> with_reducible rfl
   try simp only [Act.put, TA, TB, TC]
   refine wpAnyH_done (by kernel_rfl) ?_ _
   go_wp2_with fail
   go_meet
   exact ⟨_, CA, cc, CB, cd, rfl, rfl, hz.setRow _, ⟨owned_rd (owns_far ho9 _ _ (by have q0 := hb1.size; have q1 := hb2.size; have q2 := hb4.size; have q3 := hb5.size; (simp at q0 q1 q2 q3 ⊢) <;> omega) (Nat.zero_le _)), owned_rd (owns_far hu9 _ _ (by have q0 := hb1.size; have q1 := hb2.size; have q2 := hb4.size; have q3 := hb5.size; (simp at q0 q1 q2 q3 ⊢) <;> omega) (Nat.zero_le _)), (own_cap ho9).2⟩, hHeld⟩
 case rest =>
 obtain ⟨gr, Ar, cr, Br, dr, rfl, rfl, rk, sk, hb⟩ := hcut
 have HRr0 : Hid (RcR sp wc gr sb xbc mbc Ar Br cr dr) := ⟨rk, sk⟩
 clear rk sk
 have HS' := Lib.hid (HS.out.keep hb)
 have HRa' := Lib.hid (HRa.out.below hb)
 have HRb' := Lib.hid (HRb.out.below hb)
 have HRc' := Lib.hid (HRc.out.below hb)
 have HRq' := Lib.hid (HRq.out.below hb)
 clear HS HRa HRb HRc HRq
 have HS := HS'; have HRa := HRa'; have HRb := HRb'; have HRc := HRc'; have HRq := HRq'
 clear HS' HRa' HRb' HRc' HRq'
 have HRr := HRr0
 clear HRr0 hb
 obtain ⟨W12, hW⟩ : ∃ W12 : World, W12 = wc := ⟨_, rfl⟩
 subst hW
 go_upto_region 13 with fail
 go_cut [21, 22] from 193 to 200 (fun s21 s22 wx => ∃ (g : Nat) (CA : Option Addr) (cc : Nat) (CB : Option Addr) (cd : Nat), s21 = .pointer (some ⟨g, 0, none⟩) ∧ s22 = .int .i64 0 ∧ Row wx g 91 [.int .i64 st, .int .i64 sp, .slice CA xs.length cc, .slice CB ms.length cd] ∧ SlOk wx CA cc xs CB ms ∧ Below W12.heap.size W12 wx)
 case first => as_aux_lemma =>
  refine wp_region_held_drew (S := fun V => Below W12.heap.size W12 V) (by kernel_rfl) ?_ (fun hHeld => ?_)
  · exact (Below.refl _ _).drew
  refine TD (i := 0) (oi := ⟨some 194, _, _, _, _, _⟩) (v := .agg #[.int .i64 sa, .int .i64 sp, .slice Aa xa.length ca, .slice Ba ma.length da]) rfl (by kernel_rfl) (by kernel_rfl) (by kernel_rfl) (fun _ _ _ h => h) (Or.inl ⟨by kernel_rfl, fun V hV => ex_row2 91 _ rfl ga rfl 91 [.int .i64 sa, .int .i64 sp, .slice Aa xa.length ca, .slice Ba ma.length da] _ Tryz.underlying91 rfl (by kernel_rfl) ((HRa.out.below hV).1)⟩) hHeld ?_
  try simp only [Act.put, TA, TB, TC]
  refine TD (i := 3) (oi := ⟨some 197, _, _, _, _, _⟩) (v := .agg #[.int .i64 sb, .int .i64 sp, .slice Ar xbc.length cr, .slice Br mbc.length dr]) rfl (by kernel_rfl) (by kernel_rfl) (by kernel_rfl) (fun _ _ _ h => h) (Or.inl ⟨by kernel_rfl, fun V hV => ex_row2 91 _ rfl gr rfl 91 [.int .i64 sb, .int .i64 sp, .slice Ar xbc.length cr, .slice Br mbc.length dr] _ Tryz.underlying91 rfl (by kernel_rfl) ((HRr.out.below hV).1)⟩) hHeld ?_
  try simp only [Act.put, TA, TB, TC]
  refine TG (rs := [1, 8]) (by kernel_rfl) (by simp) ?_
  refine TE rfl (fun K hK => ?_) (TE rfl (fun K hK => ?_) (TF))
  ·
   go_simp
   go_at_call 33
   refine (told_sl sa sp Aa Ba ca da xa ma _ (HRa.out.below hHeld).2 HXxa.out HMma.out).mono ?_
   rintro e v1 ⟨A1, c1, B1, d1, rfl, hs1, hb1⟩
   have zv1 := (hHeld.trans (hb1.mono hHeld.size)).size
   try go_simp
   refine hK.out _ _ ?_ (fun hHeld => ?_)
   · exact hHeld.trans (hb1.mono hHeld.size)
   clear hK K
   try simp only [Act.put, TA, TB, TC]
   refine TG (rs := [2, 8]) (by kernel_rfl) (by simp) ?_
   refine TE rfl (fun K hK => ?_) (TE rfl (fun K hK => ?_) (TF))
   ·
    go_simp
    go_at_call 30
    refine (given_sl sa sp A1 B1 c1 d1 xa ma _ (hs1) HXxa.out HMma.out).mono ?_
    rintro e v2 ⟨A2, c2, B2, d2, rfl, hs2, -, hb2⟩
    have zv2 := (hHeld.trans (hb2.mono hHeld.size)).size
    try go_simp
    refine hK.out _ _ ?_ (fun hHeld => ?_)
    · exact hHeld.trans (hb2.mono hHeld.size)
    clear hK K
    try simp only [Act.put, TA, TB, TC]
    refine TG (rs := [4, 8]) (by kernel_rfl) (by simp) ?_
    refine TE rfl (fun K hK => ?_) (TE rfl (fun K hK => ?_) (TF))
    ·
     go_simp
     go_at_call 32
     refine (HJs.out _ _ _ _ _ _ _ _ _ (hs2) (HRr.out.below hHeld).2).mono ?_
     rintro e v9 ⟨CA, cc, CB, cd, rfl, ho9, hu9, hb9⟩
     have zv9 := (hHeld.trans (hb9.mono hHeld.size)).size
     try go_simp
     refine hK.out _ _ ?_ (fun hHeld => ?_)
     · exact hHeld.trans (hb9.mono hHeld.size)
     clear hK K
     try simp only [Act.put, TA, TB, TC]
     refine TD (i := 5) (oi := ⟨some 193, _, _, _, _, _⟩) (v := ?_) rfl (by kernel_rfl) (by kernel_rfl) (by kernel_rfl) (fun _ _ _ h => h) (Or.inl ⟨by kernel_rfl, ?_⟩) hHeld ?_
     rotate_left
     · intro w1 hSw; (try dsimp only at hSw); go_simp <;> with_reducible rfl
     try simp only [Act.put, TA, TB, TC]
     refine TD (i := 6) (oi := ⟨some 199, _, _, _, _, _⟩) (v := ?_) rfl (by kernel_rfl) (by kernel_rfl) (by kernel_rfl) (fun _ _ _ h => h) (Or.inl ⟨by kernel_rfl, ?_⟩) hHeld ?_
     rotate_left
     · intro w1 hSw; (try dsimp only at hSw); go_simp <;> with_reducible rfl
     try simp only [Act.put, TA, TB, TC]
     refine TD (i := 7) (oi := ⟨some 200, _, _, _, _, _⟩) (v := ?_) rfl (by kernel_rfl) (by kernel_rfl) (by kernel_rfl) (fun _ _ _ h => h) (Or.inl ⟨by kernel_rfl, ?_⟩) hHeld ?_
     rotate_left
     · intro w1 hSw; (try dsimp only at hSw); go_simp <;> with_reducible rfl
     try simp only [Act.put, TA, TB, TC]
     refine TG (rs := [8]) (by kernel_rfl) (by simp) ?_
     refine TE rfl (fun K hK => ?_) (TF)
     go_simp
     refine hK.out _ _ ?_ (fun hHeld => ?_)
     · exact hHeld.alloc hHeld.size _
     clear hK K
     try simp only [Act.put, TA, TB, TC]
     refine TG (rs := [9]) (by kernel_rfl) (by simp) ?_
     refine TE rfl (fun K hK => ?_) (TF)
     have hz := Row.new v9 91 zero4
     have hg : W12.heap.size ≤ v9.heap.size := zv9
     refine step_store_row rfl 91 _ _ rfl v9.heap.size [.int .i64 st, .int .i64 sp, .slice CA xs.length cc, .slice CB ms.length cd] rfl rfl 91 zero4 hz (by kernel_rfl) rfl (by simp [Value.oneCell']) ?_
     refine hK.out _ _ ?_ (fun hHeld => ?_)
     · exact Below.setRow hHeld hg _
     clear hK K
     try simp only [Act.put, TA, TB, TC]
     refine TD (i := 10) (oi := ⟨some 22, _, _, _, _, _⟩) (v := ?_) rfl (by kernel_rfl) (by kernel_rfl) (by kernel_rfl) (fun _ _ _ h => h) (Or.inl ⟨by kernel_rfl, ?_⟩) hHeld ?_
     rotate_left
     · intro w1 hSw; (try dsimp only at hSw); go_simp <;> with_reducible rfl
     try simp only [Act.put, TA, TB, TC]
     refine wpAnyH_done (by kernel_rfl) ?_ _
     go_wp2_with fail
     go_meet
     exact ⟨_, CA, cc, CB, cd, rfl, rfl, hz.setRow _, ⟨owned_rd (owns_other v9.heap.size (ho9.alloc _) (fun j hj hne => setRow_other _ _ _ _ hne) (fun e => by have := (ho9.lt _ e).2; omega)), owned_rd (owns_other v9.heap.size (hu9.alloc _) (fun j hj hne => setRow_other _ _ _ _ hne) (fun e => by have := (hu9.lt _ e).2; omega)), (own_cap ho9).2⟩, hHeld⟩
    ·
     go_simp
     refine hK.out _ _ ?_ (fun hHeld => ?_)
     · exact hHeld.alloc hHeld.size _
     clear hK K
     try simp only [Act.put, TA, TB, TC]
     refine TG (rs := [4]) (by kernel_rfl) (by simp) ?_
     refine TE rfl (fun K hK => ?_) (TF)
     go_simp
     go_at_call 32
     refine (HJs.out _ _ _ _ _ _ _ _ _ ((hs2).below ((Below.refl _ _).alloc (Nat.le_refl _) _)) (HRr.out.below hHeld).2).mono ?_
     rintro e v9 ⟨CA, cc, CB, cd, rfl, ho9, hu9, hb9⟩
     have zv9 := (hHeld.trans (hb9.mono hHeld.size)).size
     try go_simp
     refine hK.out _ _ ?_ (fun hHeld => ?_)
     · exact hHeld.trans (hb9.mono hHeld.size)
     clear hK K
     try simp only [Act.put, TA, TB, TC]
     refine TD (i := 5) (oi := ⟨some 193, _, _, _, _, _⟩) (v := ?_) rfl (by kernel_rfl) (by kernel_rfl) (by kernel_rfl) (fun _ _ _ h => h) (Or.inl ⟨by kernel_rfl, ?_⟩) hHeld ?_
     rotate_left
     · intro w1 hSw; (try dsimp only at hSw); go_simp <;> with_reducible rfl
     try simp only [Act.put, TA, TB, TC]
     refine TD (i := 6) (oi := ⟨some 199, _, _, _, _, _⟩) (v := ?_) rfl (by kernel_rfl) (by kernel_rfl) (by kernel_rfl) (fun _ _ _ h => h) (Or.inl ⟨by kernel_rfl, ?_⟩) hHeld ?_
     rotate_left
     · intro w1 hSw; (try dsimp only at hSw); go_simp <;> with_reducible rfl
     try simp only [Act.put, TA, TB, TC]
     refine TD (i := 7) (oi := ⟨some 200, _, _, _, _, _⟩) (v := ?_) rfl (by kernel_rfl) (by kernel_rfl) (by kernel_rfl) (fun _ _ _ h => h) (Or.inl ⟨by kernel_rfl, ?_⟩) hHeld ?_
     rotate_left
     · intro w1 hSw; (try dsimp only at hSw); go_simp <;> with_reducible rfl
     try simp only [Act.put, TA, TB, TC]
     refine TG (rs := [9]) (by kernel_rfl) (by simp) ?_
     refine TE rfl (fun K hK => ?_) (TF)
     have hz := (Row.new v2 91 zero4).old hb9
     have hg : W12.heap.size ≤ v2.heap.size := zv2
     refine step_store_row rfl 91 _ _ rfl v2.heap.size [.int .i64 st, .int .i64 sp, .slice CA xs.length cc, .slice CB ms.length cd] rfl rfl 91 zero4 hz (by kernel_rfl) rfl (by simp [Value.oneCell']) ?_
     refine hK.out _ _ ?_ (fun hHeld => ?_)
     · exact Below.setRow hHeld hg _
     clear hK K
     try simp only [Act.put, TA, TB, TC]
     refine TD (i := 10) (oi := ⟨some 22, _, _, _, _, _⟩) (v := ?_) rfl (by kernel_rfl) (by kernel_rfl) (by kernel_rfl) (fun _ _ _ h => h) (Or.inl ⟨by kernel_rfl, ?_⟩) hHeld ?_
     rotate_left
     · intro w1 hSw; (try dsimp only at hSw); go_simp <;> with_reducible rfl
     try simp only [Act.put, TA, TB, TC]
     refine wpAnyH_done (by kernel_rfl) ?_ _
     go_wp2_with fail
     go_meet
     exact ⟨_, CA, cc, CB, cd, rfl, rfl, hz.setRow _, ⟨owned_rd (owns_far ho9 _ _ (by  (simp ) <;> omega) (Nat.zero_le _)), owned_rd (owns_far hu9 _ _ (by  (simp ) <;> omega) (Nat.zero_le _)), (own_cap ho9).2⟩, hHeld⟩
   ·
    go_simp
    refine hK.out _ _ ?_ (fun hHeld => ?_)
    · exact hHeld.alloc hHeld.size _
    clear hK K
    try simp only [Act.put, TA, TB, TC]
    refine TG (rs := [2]) (by kernel_rfl) (by simp) ?_
    refine TE rfl (fun K hK => ?_) (TF)
    go_simp
    go_at_call 30
    refine (given_sl sa sp A1 B1 c1 d1 xa ma _ ((hs1).below ((Below.refl _ _).alloc (Nat.le_refl _) _)) HXxa.out HMma.out).mono ?_
    rintro e v2 ⟨A2, c2, B2, d2, rfl, hs2, -, hb2⟩
    have zv2 := (hHeld.trans (hb2.mono hHeld.size)).size
    try go_simp
    refine hK.out _ _ ?_ (fun hHeld => ?_)
    · exact hHeld.trans (hb2.mono hHeld.size)
    clear hK K
    try simp only [Act.put, TA, TB, TC]
    refine TG (rs := [4]) (by kernel_rfl) (by simp) ?_
    refine TE rfl (fun K hK => ?_) (TF)
    go_simp
    go_at_call 32
    refine (HJs.out _ _ _ _ _ _ _ _ _ (hs2) (HRr.out.below hHeld).2).mono ?_
    rintro e v9 ⟨CA, cc, CB, cd, rfl, ho9, hu9, hb9⟩
    have zv9 := (hHeld.trans (hb9.mono hHeld.size)).size
    try go_simp
    refine hK.out _ _ ?_ (fun hHeld => ?_)
    · exact hHeld.trans (hb9.mono hHeld.size)
    clear hK K
    try simp only [Act.put, TA, TB, TC]
    refine TD (i := 5) (oi := ⟨some 193, _, _, _, _, _⟩) (v := ?_) rfl (by kernel_rfl) (by kernel_rfl) (by kernel_rfl) (fun _ _ _ h => h) (Or.inl ⟨by kernel_rfl, ?_⟩) hHeld ?_
    rotate_left
    · intro w1 hSw; (try dsimp only at hSw); go_simp <;> with_reducible rfl
    try simp only [Act.put, TA, TB, TC]
    refine TD (i := 6) (oi := ⟨some 199, _, _, _, _, _⟩) (v := ?_) rfl (by kernel_rfl) (by kernel_rfl) (by kernel_rfl) (fun _ _ _ h => h) (Or.inl ⟨by kernel_rfl, ?_⟩) hHeld ?_
    rotate_left
    · intro w1 hSw; (try dsimp only at hSw); go_simp <;> with_reducible rfl
    try simp only [Act.put, TA, TB, TC]
    refine TD (i := 7) (oi := ⟨some 200, _, _, _, _, _⟩) (v := ?_) rfl (by kernel_rfl) (by kernel_rfl) (by kernel_rfl) (fun _ _ _ h => h) (Or.inl ⟨by kernel_rfl, ?_⟩) hHeld ?_
    rotate_left
    · intro w1 hSw; (try dsimp only at hSw); go_simp <;> with_reducible rfl
    try simp only [Act.put, TA, TB, TC]
    refine TG (rs := [9]) (by kernel_rfl) (by simp) ?_
    refine TE rfl (fun K hK => ?_) (TF)
    have hz := ((Row.new v1 91 zero4).old hb2).old hb9
    have hg : W12.heap.size ≤ v1.heap.size := zv1
    refine step_store_row rfl 91 _ _ rfl v1.heap.size [.int .i64 st, .int .i64 sp, .slice CA xs.length cc, .slice CB ms.length cd] rfl rfl 91 zero4 hz (by kernel_rfl) rfl (by simp [Value.oneCell']) ?_
    refine hK.out _ _ ?_ (fun hHeld => ?_)
    · exact Below.setRow hHeld hg _
    clear hK K
    try simp only [Act.put, TA, TB, TC]
    refine TD (i := 10) (oi := ⟨some 22, _, _, _, _, _⟩) (v := ?_) rfl (by kernel_rfl) (by kernel_rfl) (by kernel_rfl) (fun _ _ _ h => h) (Or.inl ⟨by kernel_rfl, ?_⟩) hHeld ?_
    rotate_left
    · intro w1 hSw; (try dsimp only at hSw); go_simp <;> with_reducible rfl
    try simp only [Act.put, TA, TB, TC]
    refine wpAnyH_done (by kernel_rfl) ?_ _
    go_wp2_with fail
    go_meet
    exact ⟨_, CA, cc, CB, cd, rfl, rfl, hz.setRow _, ⟨owned_rd (owns_far ho9 _ _ (by have q0 := hb2.size; (simp at q0 ⊢) <;> omega) (Nat.zero_le _)), owned_rd (owns_far hu9 _ _ (by have q0 := hb2.size; (simp at q0 ⊢) <;> omega) (Nat.zero_le _)), (own_cap ho9).2⟩, hHeld⟩
  ·
   go_simp
   refine hK.out _ _ ?_ (fun hHeld => ?_)
   · exact hHeld.alloc hHeld.size _
   clear hK K
   try simp only [Act.put, TA, TB, TC]
   refine TG (rs := [1]) (by kernel_rfl) (by simp) ?_
   refine TE rfl (fun K hK => ?_) (TF)
   go_simp
   go_at_call 33
   refine (told_sl sa sp Aa Ba ca da xa ma _ (HRa.out.below hHeld).2 HXxa.out HMma.out).mono ?_
   rintro e v1 ⟨A1, c1, B1, d1, rfl, hs1, hb1⟩
   have zv1 := (hHeld.trans (hb1.mono hHeld.size)).size
   try go_simp
   refine hK.out _ _ ?_ (fun hHeld => ?_)
   · exact hHeld.trans (hb1.mono hHeld.size)
   clear hK K
   try simp only [Act.put, TA, TB, TC]
   refine TG (rs := [2]) (by kernel_rfl) (by simp) ?_
   refine TE rfl (fun K hK => ?_) (TF)
   go_simp
   go_at_call 30
   refine (given_sl sa sp A1 B1 c1 d1 xa ma _ (hs1) HXxa.out HMma.out).mono ?_
   rintro e v2 ⟨A2, c2, B2, d2, rfl, hs2, -, hb2⟩
   have zv2 := (hHeld.trans (hb2.mono hHeld.size)).size
   try go_simp
   refine hK.out _ _ ?_ (fun hHeld => ?_)
   · exact hHeld.trans (hb2.mono hHeld.size)
   clear hK K
   try simp only [Act.put, TA, TB, TC]
   refine TG (rs := [4]) (by kernel_rfl) (by simp) ?_
   refine TE rfl (fun K hK => ?_) (TF)
   go_simp
   go_at_call 32
   refine (HJs.out _ _ _ _ _ _ _ _ _ (hs2) (HRr.out.below hHeld).2).mono ?_
   rintro e v9 ⟨CA, cc, CB, cd, rfl, ho9, hu9, hb9⟩
   have zv9 := (hHeld.trans (hb9.mono hHeld.size)).size
   try go_simp
   refine hK.out _ _ ?_ (fun hHeld => ?_)
   · exact hHeld.trans (hb9.mono hHeld.size)
   clear hK K
   try simp only [Act.put, TA, TB, TC]
   refine TD (i := 5) (oi := ⟨some 193, _, _, _, _, _⟩) (v := ?_) rfl (by kernel_rfl) (by kernel_rfl) (by kernel_rfl) (fun _ _ _ h => h) (Or.inl ⟨by kernel_rfl, ?_⟩) hHeld ?_
   rotate_left
   · intro w1 hSw; (try dsimp only at hSw); go_simp <;> with_reducible rfl
   try simp only [Act.put, TA, TB, TC]
   refine TD (i := 6) (oi := ⟨some 199, _, _, _, _, _⟩) (v := ?_) rfl (by kernel_rfl) (by kernel_rfl) (by kernel_rfl) (fun _ _ _ h => h) (Or.inl ⟨by kernel_rfl, ?_⟩) hHeld ?_
   rotate_left
   · intro w1 hSw; (try dsimp only at hSw); go_simp <;> with_reducible rfl
   try simp only [Act.put, TA, TB, TC]
   refine TD (i := 7) (oi := ⟨some 200, _, _, _, _, _⟩) (v := ?_) rfl (by kernel_rfl) (by kernel_rfl) (by kernel_rfl) (fun _ _ _ h => h) (Or.inl ⟨by kernel_rfl, ?_⟩) hHeld ?_
   rotate_left
   · intro w1 hSw; (try dsimp only at hSw); go_simp <;> with_reducible rfl
   try simp only [Act.put, TA, TB, TC]
   refine TG (rs := [9]) (by kernel_rfl) (by simp) ?_
   refine TE rfl (fun K hK => ?_) (TF)
   have hz := (((Row.new W12.drew 91 zero4).old hb1).old hb2).old hb9
   have hg : W12.heap.size ≤ W12.heap.size := Nat.le_refl _
   refine step_store_row rfl 91 _ _ rfl W12.heap.size [.int .i64 st, .int .i64 sp, .slice CA xs.length cc, .slice CB ms.length cd] rfl rfl 91 zero4 hz (by kernel_rfl) rfl (by simp [Value.oneCell']) ?_
   refine hK.out _ _ ?_ (fun hHeld => ?_)
   · exact Below.setRow hHeld hg _
   clear hK K
   try simp only [Act.put, TA, TB, TC]
   refine TD (i := 10) (oi := ⟨some 22, _, _, _, _, _⟩) (v := ?_) rfl (by kernel_rfl) (by kernel_rfl) (by kernel_rfl) (fun _ _ _ h => h) (Or.inl ⟨by kernel_rfl, ?_⟩) hHeld ?_
   rotate_left
   · intro w1 hSw; (try dsimp only at hSw); go_simp <;> with_reducible rfl
   try simp only [Act.put, TA, TB, TC]
   refine wpAnyH_done (by kernel_rfl) ?_ _
   go_wp2_with fail
   go_meet
   exact ⟨_, CA, cc, CB, cd, rfl, rfl, hz.setRow _, ⟨owned_rd (owns_far ho9 _ _ (by have q0 := hb1.size; have q1 := hb2.size; (simp at q0 q1 ⊢) <;> omega) (Nat.zero_le _)), owned_rd (owns_far hu9 _ _ (by have q0 := hb1.size; have q1 := hb2.size; (simp at q0 q1 ⊢) <;> omega) (Nat.zero_le _)), (own_cap ho9).2⟩, hHeld⟩
 case rest =>
 obtain ⟨gs, As, cs, Bs, ds, rfl, rfl, rk, sk, hb⟩ := hcut
 have HRs0 : Hid (RcR sp wc gs st xs ms As Bs cs ds) := ⟨rk, sk⟩
 clear rk sk
 have HS' := Lib.hid (HS.out.keep hb)
 have HRa' := Lib.hid (HRa.out.below hb)
 have HRb' := Lib.hid (HRb.out.below hb)
 have HRc' := Lib.hid (HRc.out.below hb)
 have HRq' := Lib.hid (HRq.out.below hb)
 have HRr' := Lib.hid (HRr.out.below hb)
 clear HS HRa HRb HRc HRq HRr
 have HS := HS'; have HRa := HRa'; have HRb := HRb'; have HRc := HRc'; have HRq := HRq'; have HRr := HRr'
 clear HS' HRa' HRb' HRc' HRq' HRr'
 have HRs := HRs0
 clear HRs0 hb
 obtain ⟨W13, hW⟩ : ∃ W13 : World, W13 = wc := ⟨_, rfl⟩
 subst hW
 go_upto_region 14 with fail
 go_cut [228] from 201 to 228 (fun s wx => s = .bool false ∧ Below W13.heap.size W13 wx)
 case first => as_aux_lemma =>
  refine wp_region_held_drew (S := fun V => Below W13.heap.size W13 V) (by kernel_rfl) ?_ (fun hHeld => ?_)
  · exact (Below.refl _ _).drew
  refine TD (i := 0) (oi := ⟨some 201, _, _, _, _, _⟩) (v := ?_) rfl (by kernel_rfl) (by kernel_rfl) (by kernel_rfl) (fun _ _ _ h => h) (Or.inl ⟨by kernel_rfl, ?_⟩) hHeld ?_
  rotate_left
  · intro w1 hSw; (try dsimp only at hSw); go_simp <;> with_reducible rfl
  try simp only [Act.put, TA, TB, TC]
  refine TD (i := 1) (oi := ⟨some 202, _, _, _, _, _⟩) (v := ?_) rfl (by kernel_rfl) (by kernel_rfl) (by kernel_rfl) (fun _ _ _ h => h) (Or.inl ⟨by kernel_rfl, ?_⟩) hHeld ?_
  rotate_left
  · intro w1 hSw; (try dsimp only at hSw); go_simp <;> with_reducible rfl
  try simp only [Act.put, TA, TB, TC]
  refine TD (i := 2) (oi := ⟨some 203, _, _, _, _, _⟩) (v := ?_) rfl (by kernel_rfl) (by kernel_rfl) (by kernel_rfl) (fun _ _ _ h => h) (Or.inl ⟨by kernel_rfl, ?_⟩) hHeld ?_
  rotate_left
  · intro w1 hSw; (try dsimp only at hSw); go_simp <;> with_reducible rfl
  try simp only [Act.put, TA, TB, TC]
  refine TD (i := 3) (oi := ⟨some 204, _, _, _, _, _⟩) (v := ?_) rfl (by kernel_rfl) (by kernel_rfl) (by kernel_rfl) (fun _ _ _ h => h) (Or.inl ⟨by kernel_rfl, ?_⟩) hHeld ?_
  rotate_left
  · intro w1 hSw; (try dsimp only at hSw); go_simp <;> with_reducible rfl
  try simp only [Act.put, TA, TB, TC]
  refine TD (i := 4) (oi := ⟨some 205, _, _, _, _, _⟩) (v := ?_) rfl (by kernel_rfl) (by kernel_rfl) (by kernel_rfl) (fun _ _ _ h => h) (Or.inl ⟨by kernel_rfl, ?_⟩) hHeld ?_
  rotate_left
  · intro w1 hSw; (try dsimp only at hSw); go_simp <;> with_reducible rfl
  try simp only [Act.put, TA, TB, TC]
  refine TD (i := 5) (oi := ⟨some 206, _, _, _, _, _⟩) (v := ?_) rfl (by kernel_rfl) (by kernel_rfl) (by kernel_rfl) (fun _ _ _ h => h) (Or.inl ⟨by kernel_rfl, ?_⟩) hHeld ?_
  rotate_left
  · intro w1 hSw; (try dsimp only at hSw); go_simp <;> with_reducible rfl
  try simp only [Act.put, TA, TB, TC]
  refine TD (i := 6) (oi := ⟨some 207, _, _, _, _, _⟩) (v := ?_) rfl (by kernel_rfl) (by kernel_rfl) (by kernel_rfl) (fun _ _ _ h => h) (Or.inl ⟨by kernel_rfl, ?_⟩) hHeld ?_
  rotate_left
  · intro w1 hSw; (try dsimp only at hSw); go_simp <;> with_reducible rfl
  try simp only [Act.put, TA, TB, TC]
  refine TD (i := 7) (oi := ⟨some 208, _, _, _, _, _⟩) (v := ?_) rfl (by kernel_rfl) (by kernel_rfl) (by kernel_rfl) (fun _ _ _ h => h) (Or.inl ⟨by kernel_rfl, ?_⟩) hHeld ?_
  rotate_left
  · intro w1 hSw; (try dsimp only at hSw); go_simp <;> with_reducible rfl
  try simp only [Act.put, TA, TB, TC]
  refine TD (i := 8) (oi := ⟨some 209, _, _, _, _, _⟩) (v := ?_) rfl (by kernel_rfl) (by kernel_rfl) (by kernel_rfl) (fun _ _ _ h => h) (Or.inl ⟨by kernel_rfl, ?_⟩) hHeld ?_
  rotate_left
  · intro w1 hSw; (try dsimp only at hSw); go_simp <;> with_reducible rfl
  try simp only [Act.put, TA, TB, TC]
  refine TD (i := 9) (oi := ⟨some 210, _, _, _, _, _⟩) (v := ?_) rfl (by kernel_rfl) (by kernel_rfl) (by kernel_rfl) (fun _ _ _ h => h) (Or.inl ⟨by kernel_rfl, ?_⟩) hHeld ?_
  rotate_left
  · intro w1 hSw; (try dsimp only at hSw); go_simp <;> with_reducible rfl
  try simp only [Act.put, TA, TB, TC]
  refine TD (i := 10) (oi := ⟨some 211, _, _, _, _, _⟩) (v := ?_) rfl (by kernel_rfl) (by kernel_rfl) (by kernel_rfl) (fun _ _ _ h => h) (Or.inl ⟨by kernel_rfl, ?_⟩) hHeld ?_
  rotate_left
  · intro w1 hSw; (try dsimp only at hSw); go_simp <;> with_reducible rfl
  try simp only [Act.put, TA, TB, TC]
  refine TD (i := 11) (oi := ⟨some 212, _, _, _, _, _⟩) (v := ?_) rfl (by kernel_rfl) (by kernel_rfl) (by kernel_rfl) (fun _ _ _ h => h) (Or.inl ⟨by kernel_rfl, ?_⟩) hHeld ?_
  rotate_left
  · intro w1 hSw; (try dsimp only at hSw); go_simp <;> with_reducible rfl
  try simp only [Act.put, TA, TB, TC]
  refine TD (i := 12) (oi := ⟨some 213, _, _, _, _, _⟩) (v := ?_) rfl (by kernel_rfl) (by kernel_rfl) (by kernel_rfl) (fun _ _ _ h => h) (Or.inl ⟨by kernel_rfl, ?_⟩) hHeld ?_
  rotate_left
  · intro w1 hSw; (try dsimp only at hSw); go_simp <;> with_reducible rfl
  try simp only [Act.put, TA, TB, TC]
  refine TD (i := 13) (oi := ⟨some 214, _, _, _, _, _⟩) (v := ?_) rfl (by kernel_rfl) (by kernel_rfl) (by kernel_rfl) (fun _ _ _ h => h) (Or.inl ⟨by kernel_rfl, ?_⟩) hHeld ?_
  rotate_left
  · intro w1 hSw; (try dsimp only at hSw); go_simp <;> with_reducible rfl
  try simp only [Act.put, TA, TB, TC]
  refine TD (i := 14) (oi := ⟨some 215, _, _, _, _, _⟩) (v := ?_) rfl (by kernel_rfl) (by kernel_rfl) (by kernel_rfl) (fun _ _ _ h => h) (Or.inl ⟨by kernel_rfl, ?_⟩) hHeld ?_
  rotate_left
  · intro w1 hSw; (try dsimp only at hSw); go_simp <;> with_reducible rfl
  try simp only [Act.put, TA, TB, TC]
  refine TD (i := 15) (oi := ⟨some 216, _, _, _, _, _⟩) (v := .agg #[.int .i64 st, .int .i64 sp, .slice Aq xs.length cq, .slice Bq ms.length dq]) rfl (by kernel_rfl) (by kernel_rfl) (by kernel_rfl) (fun _ _ _ h => h) (Or.inl ⟨by kernel_rfl, fun V hV => ex_row2 91 _ rfl gq rfl 91 [.int .i64 st, .int .i64 sp, .slice Aq xs.length cq, .slice Bq ms.length dq] _ Tryz.underlying91 rfl (by kernel_rfl) ((HRq.out.below hV).1)⟩) hHeld ?_
  try simp only [Act.put, TA, TB, TC]
  refine TD (i := 17) (oi := ⟨some 218, _, _, _, _, _⟩) (v := .agg #[.int .i64 st, .int .i64 sp, .slice A xs.length c, .slice B ms.length d]) rfl (by kernel_rfl) (by kernel_rfl) (by kernel_rfl) (fun _ _ _ h => h) (Or.inl ⟨by kernel_rfl, fun V hV => ex_row2 85 _ rfl w.heap.size rfl 85 [.int .i64 st, .int .i64 sp, .slice A xs.length c, .slice B ms.length d] _ Tryz.underlying85 rfl (by kernel_rfl) (HS.out.keep hV).1⟩) hHeld ?_
  try simp only [Act.put, TA, TB, TC]
  refine TG (rs := [16]) (by kernel_rfl) (by simp) ?_
  refine TE rfl (fun K hK => ?_) TF
  go_simp
  go_at_call 33
  refine (told_sl st sp Aq Bq cq dq xs ms _ (HRq.out.below hHeld).2 HXxs.out HMms.out).mono ?_
  rintro e v16 ⟨A16, c16, B16, d16, rfl, hs16, hb16⟩
  try go_simp
  refine hK.out _ _ ?_ (fun hHeld => ?_)
  · exact hHeld.trans (hb16.mono hHeld.size)
  clear hK K
  try simp only [Act.put, TA, TB, TC]
  refine TG (rs := [18]) (by kernel_rfl) (by simp) ?_
  refine TE rfl (fun K hK => ?_) TF
  go_simp
  go_at_call 34
  refine (sameRecording_true st sp A16 B16 A B c16 d16 c d xs xs ms _ (hs16).1 (hs16).2.1 (HS.out.keep hHeld).2.2.1 (HS.out.keep hHeld).2.2.2.1 HXxs.out HMms.out HSF.out).mono ?_
  rintro e v18 ⟨rfl, hb18⟩
  try go_simp
  refine hK.out _ _ ?_ (fun hHeld => ?_)
  · exact hHeld.trans (hb18.mono hHeld.size)
  clear hK K
  try simp only [Act.put, TA, TB, TC]
  refine TD (i := 19) (oi := ⟨some 220, _, _, _, _, _⟩) (v := ?_) rfl (by kernel_rfl) (by kernel_rfl) (by kernel_rfl) (fun _ _ _ h => h) (Or.inl ⟨by kernel_rfl, ?_⟩) hHeld ?_
  rotate_left
  · intro w1 hSw; (try dsimp only at hSw); go_simp <;> with_reducible rfl
  try simp only [Act.put, TA, TB, TC]
  refine TD (i := 20) (oi := ⟨some 221, _, _, _, _, _⟩) (v := ?_) rfl (by kernel_rfl) (by kernel_rfl) (by kernel_rfl) (fun _ _ _ h => h) (Or.inl ⟨by kernel_rfl, ?_⟩) hHeld ?_
  rotate_left
  · intro w1 hSw; (try dsimp only at hSw); go_simp <;> with_reducible rfl
  try simp only [Act.put, TA, TB, TC]
  refine TD (i := 21) (oi := ⟨some 222, _, _, _, _, _⟩) (v := ?_) rfl (by kernel_rfl) (by kernel_rfl) (by kernel_rfl) (fun _ _ _ h => h) (Or.inl ⟨by kernel_rfl, ?_⟩) hHeld ?_
  rotate_left
  · intro w1 hSw; (try dsimp only at hSw); go_simp <;> with_reducible rfl
  try simp only [Act.put, TA, TB, TC]
  refine TD (i := 22) (oi := ⟨some 223, _, _, _, _, _⟩) (v := .agg #[.int .i64 st, .int .i64 sp, .slice As xs.length cs, .slice Bs ms.length ds]) rfl (by kernel_rfl) (by kernel_rfl) (by kernel_rfl) (fun _ _ _ h => h) (Or.inl ⟨by kernel_rfl, fun V hV => ex_row2 91 _ rfl gs rfl 91 [.int .i64 st, .int .i64 sp, .slice As xs.length cs, .slice Bs ms.length ds] _ Tryz.underlying91 rfl (by kernel_rfl) ((HRs.out.below hV).1)⟩) hHeld ?_
  try simp only [Act.put, TA, TB, TC]
  refine TD (i := 24) (oi := ⟨some 225, _, _, _, _, _⟩) (v := .agg #[.int .i64 st, .int .i64 sp, .slice A xs.length c, .slice B ms.length d]) rfl (by kernel_rfl) (by kernel_rfl) (by kernel_rfl) (fun _ _ _ h => h) (Or.inl ⟨by kernel_rfl, fun V hV => ex_row2 85 _ rfl w.heap.size rfl 85 [.int .i64 st, .int .i64 sp, .slice A xs.length c, .slice B ms.length d] _ Tryz.underlying85 rfl (by kernel_rfl) (HS.out.keep hV).1⟩) hHeld ?_
  try simp only [Act.put, TA, TB, TC]
  refine TG (rs := [23]) (by kernel_rfl) (by simp) ?_
  refine TE rfl (fun K hK => ?_) TF
  go_simp
  go_at_call 33
  refine (told_sl st sp As Bs cs ds xs ms _ (HRs.out.below hHeld).2 HXxs.out HMms.out).mono ?_
  rintro e v23 ⟨A23, c23, B23, d23, rfl, hs23, hb23⟩
  try go_simp
  refine hK.out _ _ ?_ (fun hHeld => ?_)
  · exact hHeld.trans (hb23.mono hHeld.size)
  clear hK K
  try simp only [Act.put, TA, TB, TC]
  refine TG (rs := [25]) (by kernel_rfl) (by simp) ?_
  refine TE rfl (fun K hK => ?_) TF
  go_simp
  go_at_call 34
  refine (sameRecording_true st sp A23 B23 A B c23 d23 c d xs xs ms _ (hs23).1 (hs23).2.1 (HS.out.keep hHeld).2.2.1 (HS.out.keep hHeld).2.2.2.1 HXxs.out HMms.out HSF.out).mono ?_
  rintro e v25 ⟨rfl, hb25⟩
  try go_simp
  refine hK.out _ _ ?_ (fun hHeld => ?_)
  · exact hHeld.trans (hb25.mono hHeld.size)
  clear hK K
  try simp only [Act.put, TA, TB, TC]
  refine TD (i := 26) (oi := ⟨some 227, _, _, _, _, _⟩) (v := ?_) rfl (by kernel_rfl) (by kernel_rfl) (by kernel_rfl) (fun _ _ _ h => h) (Or.inl ⟨by kernel_rfl, ?_⟩) hHeld ?_
  rotate_left
  · intro w1 hSw; (try dsimp only at hSw); go_simp <;> with_reducible rfl
  try simp only [Act.put, TA, TB, TC]
  refine TD (i := 27) (oi := ⟨some 228, _, _, _, _, _⟩) (v := ?_) rfl (by kernel_rfl) (by kernel_rfl) (by kernel_rfl) (fun _ _ _ h => h) (Or.inl ⟨by kernel_rfl, ?_⟩) hHeld ?_
  rotate_left
  · intro w1 hSw; (try dsimp only at hSw); go_simp <;> with_reducible rfl
  try simp only [Act.put, TA, TB, TC]
  refine wpAnyH_done (by kernel_rfl) ?_ _
  go_wp2_with fail
  go_meet
  exact ⟨rfl, hHeld⟩
 case rest =>
 obtain ⟨rfl, hb⟩ := hcut
 have HS' := Lib.hid (HS.out.keep hb)
 have HRa' := Lib.hid (HRa.out.below hb)
 have HRb' := Lib.hid (HRb.out.below hb)
 have HRc' := Lib.hid (HRc.out.below hb)
 clear HS HRa HRb HRc
 have HS := HS'; have HRa := HRa'; have HRb := HRb'; have HRc := HRc'
 clear HS' HRa' HRb' HRc'
 clear hb HRq HRr HRs HJp HJq HJr HJs HCa HCb HCc HM3
 obtain ⟨W14, hW⟩ : ∃ W14 : World, W14 = wc := ⟨_, rfl⟩
 subst hW
 have q0 := HRb.out.1.cell 0; have q1 := HRb.out.1.cell 1; have q2 := HRb.out.1.cell 2; have q3 := HRb.out.1.cell 3; simp only [List.getElem?_cons_succ, List.getElem?_cons_zero] at q0 q1 q2 q3
 clear q0 q1 q2
 go_wp2_with fail
 clear q3
 go_loopg [232] mb.length (fun g s wr => ∃ i : Nat, i + g = mb.length ∧ s = .int .i64 i ∧ Hid (Below W14.heap.size W14 wr))
 case atStart => exact ⟨0, by omega, rfl, Below.refl _ _⟩
 case round =>
  obtain ⟨i, hi', rfl, HBL⟩ := hrel
  have HS' := Lib.hid (HS.out.keep HBL.out)
  have HRa' := Lib.hid (HRa.out.below HBL.out)
  have HRb' := Lib.hid (HRb.out.below HBL.out)
  have HRc' := Lib.hid (HRc.out.below HBL.out)
  clear HS HRa HRb HRc
  have HS := HS'; have HRa := HRa'; have HRb := HRb'; have HRc := HRc'
  clear HS' HRa' HRb' HRc'
  by_cases hlt : i < mb.length
  · have hmk := HMK.out i hlt
    obtain ⟨k, hkm, hkI, y1, y2, y3, y4⟩ := hmk
    obtain ⟨ix, hix⟩ : ∃ ix, ix = mb[i].1 := ⟨_, rfl⟩
    obtain ⟨nm, hnm⟩ : ∃ nm, nm = mb[i].2 := ⟨_, rfl⟩
    obtain ⟨iy, hiy⟩ : ∃ iy, iy = (ms[k]'hkm).1 := ⟨_, rfl⟩
    have hny : nm = (ms[k]'hkm).2 := by rw [hnm]; exact y4
    obtain ⟨b, off, hBb, hc1, hc2⟩ := Rd.mark HRb.out.2.2.1 hlt
    subst hBb
    rw [← hix] at y1 y2 y3 hc1
    rw [← hnm] at hc2
    rw [← hiy] at y3
    obtain ⟨p1', hp1⟩ : ∃ p1', sp * ix = p1' := ⟨_, rfl⟩
    obtain ⟨p2', hp2⟩ : ∃ p2', sp * iy = p2' := ⟨_, rfl⟩
    have hpb1 := mul_le_of (a := sp) (b := 1000) (c := ix) (d := 1000) (by omega) hsp.2 y1 (by omega)
    rw [hp1] at hpb1 y3
    rw [hp2] at y3
    have HY := Lib.hid y3; have HP1 := Lib.hid hp1; have HP2 := Lib.hid hp2; have HKI := Lib.hid hkI; have HIY := Lib.hid hiy; have HNY := Lib.hid hny
    clear y3 y4 hix hnm hiy hny hp1 hp2 hkI
    go_upto_region 19 with fail
    have hal : Below wr.heap.size wr (wr.alloc (.cells #[.int .i64 ix, .string nm] 100)) := ((Below.refl _ _).alloc (Nat.le_refl _) _)
    refine genR (fun V => CpS w A B xs ms [.int .i64 st, .int .i64 sp, .slice A xs.length c, .slice B ms.length d] [.int .u8 (n0 : Int), .int .u8 (n1 : Int), .int .u8 (n2 : Int)] V ∧ RcR sp V ga sa xa ma Aa Ba ca da ∧ RcR sp V gb sb xb mb Ab (some ⟨b, off, none⟩) cb db ∧ RcR sp V gc sc xc mc Ac Bc cc dc ∧ Row V wr.heap.size 100 [.int .i64 ix, .string nm] ∧ Below W14.heap.size W14 V) ⟨HS.out.keep hal, HRa.out.below hal, HRb.out.below hal, HRc.out.below hal, Row.new wr 100 [.int .i64 ix, .string nm], HBL.out.trans (hal.mono HBL.out.size)⟩ ?_
    clear hal hc1 hc2 HS HRa HRb HRc
    rintro W17 ⟨t1, t2, t3, t4, t5, t6⟩
    have HS := Lib.hid t1; have HRa := Lib.hid t2; have HRb := Lib.hid t3; have HRc := Lib.hid t4; have HMK7 := Lib.hid t5; have HB7 := Lib.hid t6
    clear t1 t2 t3 t4 t5 t6
    have p0 := HRa.out.1.cell 0; have p1 := HRa.out.1.cell 1; have p2 := HRa.out.1.cell 2; have p3 := HRa.out.1.cell 3; simp only [List.getElem?_cons_succ, List.getElem?_cons_zero] at p0 p1 p2 p3
    clear p0 p1 p2
    have hkI' := HKI.out
    go_upto_region 20 with fail
    clear p3
    go_cut [286] from 242 to 286 (fun s wx => s = .bool false ∧ Below W17.heap.size W17 wx)
    case first => as_aux_lemma =>
     obtain ⟨b9, o9, hB9, x1, x2⟩ := Rd.mark HS.out.2.2.2.1 hkm
     subst hB9
     rw [← HIY.out] at x1; rw [← HNY.out] at x2
     have d1 : decide (ix < 0) = false := decide_eq_false (by omega)
     have d2 : decide ((xb.length : Int) ≤ ix) = false := decide_eq_false (by omega)
     have m1 := HP1.out; have m2 := HP2.out
     have hsb2 : sb = st + pb := by rw [HSB.out, HPB.out]
     have hy2 : sb + p1' = st + p2' := HY.out
     have d3 : (sb + p1' != st + p2') = false := by rw [bne_eq_false_iff_eq]; exact hy2
     have b1 : 0 ≤ p1' ∧ p1' ≤ 1000000 := by omega
     have b2 : 0 ≤ p2' ∧ p2' ≤ 200000000 := by omega
     have b3 : 0 ≤ sb ∧ sb ≤ 100000000 := by omega
     have v1 : IntKind.i64.wrap p1' = p1' := IntWalk.i64_in _ (by omega)
     have v2 : IntKind.i64.wrap p2' = p2' := IntWalk.i64_in _ (by omega)
     have v3 : IntKind.i64.wrap (st + pb + p1') = st + pb + p1' := IntWalk.i64_in _ (by omega)
     have v4 : IntKind.i64.wrap (st + p2') = st + p2' := IntWalk.i64_in _ (by omega)
     have d4 : (st + pb + p1' != st + p2') = false := by rw [bne_eq_false_iff_eq]; omega
     clear hy2 d3
     refine wp_region_held_drew (S := fun V => Below W17.heap.size W17 V) (by kernel_rfl) ?_ (fun hHeld => ?_)
     · exact (Below.refl _ _).drew
     refine TD (i := 0) (oi := ⟨some 242, _, _, _, _, _⟩) (v := ?_) rfl (by kernel_rfl) (by kernel_rfl) (by kernel_rfl) (fun _ _ _ h => h) (Or.inl ⟨by kernel_rfl, ?_⟩) hHeld ?_
     rotate_left
     · intro w1 hSw; (try dsimp only at hSw); go_simp <;> with_reducible rfl
     try simp only [Act.put, TA, TB, TC]
     refine TD (i := 1) (oi := ⟨some 243, _, _, _, _, _⟩) (v := ?_) rfl (by kernel_rfl) (by kernel_rfl) (by kernel_rfl) (fun _ _ _ h => h) (Or.inl ⟨by kernel_rfl, ?_⟩) hHeld ?_
     rotate_left
     · intro w1 hSw; (try dsimp only at hSw); have cc0 := (HMK7.out.old hSw).cell 0; simp only [List.getElem?_cons_succ, List.getElem?_cons_zero] at cc0; go_simp <;> with_reducible rfl
     try simp only [Act.put, TA, TB, TC]
     refine TD (i := 2) (oi := ⟨some 244, _, _, _, _, _⟩) (v := ?_) rfl (by kernel_rfl) (by kernel_rfl) (by kernel_rfl) (fun _ _ _ h => h) (Or.inl ⟨by kernel_rfl, ?_⟩) hHeld ?_
     rotate_left
     · intro w1 hSw; (try dsimp only at hSw); go_simp <;> with_reducible rfl
     try simp only [Act.put, TA, TB, TC]
     refine TD (i := 3) (oi := ⟨some 245, _, _, _, _, _⟩) (v := ?_) rfl (by kernel_rfl) (by kernel_rfl) (by kernel_rfl) (fun _ _ _ h => h) (Or.inl ⟨by kernel_rfl, ?_⟩) hHeld ?_
     rotate_left
     · intro w1 hSw; (try dsimp only at hSw); go_simp <;> with_reducible rfl
     try simp only [Act.put, TA, TB, TC]
     refine TD (i := 4) (oi := ⟨some 246, _, _, _, _, _⟩) (v := ?_) rfl (by kernel_rfl) (by kernel_rfl) (by kernel_rfl) (fun _ _ _ h => h) (Or.inl ⟨by kernel_rfl, ?_⟩) hHeld ?_
     rotate_left
     · intro w1 hSw; (try dsimp only at hSw); go_simp <;> with_reducible rfl
     try simp only [Act.put, TA, TB, TC]
     refine TD (i := 5) (oi := ⟨some 247, _, _, _, _, _⟩) (v := ?_) rfl (by kernel_rfl) (by kernel_rfl) (by kernel_rfl) (fun _ _ _ h => h) (Or.inl ⟨by kernel_rfl, ?_⟩) hHeld ?_
     rotate_left
     · intro w1 hSw; (try dsimp only at hSw); have cc0 := (HMK7.out.old hSw).cell 0; simp only [List.getElem?_cons_succ, List.getElem?_cons_zero] at cc0; go_simp <;> with_reducible rfl
     try simp only [Act.put, TA, TB, TC]
     refine TD (i := 6) (oi := ⟨some 248, _, _, _, _, _⟩) (v := ?_) rfl (by kernel_rfl) (by kernel_rfl) (by kernel_rfl) (fun _ _ _ h => h) (Or.inl ⟨by kernel_rfl, ?_⟩) hHeld ?_
     rotate_left
     · intro w1 hSw; (try dsimp only at hSw); go_simp <;> with_reducible rfl
     try simp only [Act.put, TA, TB, TC]
     refine TD (i := 7) (oi := ⟨some 249, _, _, _, _, _⟩) (v := ?_) rfl (by kernel_rfl) (by kernel_rfl) (by kernel_rfl) (fun _ _ _ h => h) (Or.inl ⟨by kernel_rfl, ?_⟩) hHeld ?_
     rotate_left
     · intro w1 hSw; (try dsimp only at hSw); have cc2 := (HRb.out.below hSw).1.cell 2; simp only [List.getElem?_cons_succ, List.getElem?_cons_zero] at cc2; go_simp <;> with_reducible rfl
     try simp only [Act.put, TA, TB, TC]
     refine TD (i := 8) (oi := ⟨some 250, _, _, _, _, _⟩) (v := ?_) rfl (by kernel_rfl) (by kernel_rfl) (by kernel_rfl) (fun _ _ _ h => h) (Or.inl ⟨by kernel_rfl, ?_⟩) hHeld ?_
     rotate_left
     · intro w1 hSw; (try dsimp only at hSw); go_simp <;> with_reducible rfl
     try simp only [Act.put, TA, TB, TC]
     refine TD (i := 9) (oi := ⟨some 251, _, _, _, _, _⟩) (v := ?_) rfl (by kernel_rfl) (by kernel_rfl) (by kernel_rfl) (fun _ _ _ h => h) (Or.inl ⟨by kernel_rfl, ?_⟩) hHeld ?_
     rotate_left
     · intro w1 hSw; (try dsimp only at hSw); go_simp <;> with_reducible rfl
     try simp only [Act.put, TA, TB, TC]
     refine TD (i := 10) (oi := ⟨some 252, _, _, _, _, _⟩) (v := ?_) rfl (by kernel_rfl) (by kernel_rfl) (by kernel_rfl) (fun _ _ _ h => h) (Or.inl ⟨by kernel_rfl, ?_⟩) hHeld ?_
     rotate_left
     · intro w1 hSw; (try dsimp only at hSw); go_simp <;> with_reducible rfl
     try simp only [Act.put, TA, TB, TC]
     refine TD (i := 11) (oi := ⟨some 253, _, _, _, _, _⟩) (v := ?_) rfl (by kernel_rfl) (by kernel_rfl) (by kernel_rfl) (fun _ _ _ h => h) (Or.inl ⟨by kernel_rfl, ?_⟩) hHeld ?_
     rotate_left
     · intro w1 hSw; (try dsimp only at hSw); go_simp <;> with_reducible rfl
     try simp only [Act.put, TA, TB, TC]
     refine TD (i := 12) (oi := ⟨some 254, _, _, _, _, _⟩) (v := ?_) rfl (by kernel_rfl) (by kernel_rfl) (by kernel_rfl) (fun _ _ _ h => h) (Or.inl ⟨by kernel_rfl, ?_⟩) hHeld ?_
     rotate_left
     · intro w1 hSw; (try dsimp only at hSw); go_simp <;> with_reducible rfl
     try simp only [Act.put, TA, TB, TC]
     refine TD (i := 13) (oi := ⟨some 255, _, _, _, _, _⟩) (v := ?_) rfl (by kernel_rfl) (by kernel_rfl) (by kernel_rfl) (fun _ _ _ h => h) (Or.inl ⟨by kernel_rfl, ?_⟩) hHeld ?_
     rotate_left
     · intro w1 hSw; (try dsimp only at hSw); have cc0 := (HRb.out.below hSw).1.cell 0; simp only [List.getElem?_cons_succ, List.getElem?_cons_zero] at cc0; go_simp <;> with_reducible rfl
     try simp only [Act.put, TA, TB, TC]
     refine TD (i := 14) (oi := ⟨some 256, _, _, _, _, _⟩) (v := ?_) rfl (by kernel_rfl) (by kernel_rfl) (by kernel_rfl) (fun _ _ _ h => h) (Or.inl ⟨by kernel_rfl, ?_⟩) hHeld ?_
     rotate_left
     · intro w1 hSw; (try dsimp only at hSw); go_simp <;> with_reducible rfl
     try simp only [Act.put, TA, TB, TC]
     refine TD (i := 15) (oi := ⟨some 257, _, _, _, _, _⟩) (v := ?_) rfl (by kernel_rfl) (by kernel_rfl) (by kernel_rfl) (fun _ _ _ h => h) (Or.inl ⟨by kernel_rfl, ?_⟩) hHeld ?_
     rotate_left
     · intro w1 hSw; (try dsimp only at hSw); have cc1 := (HRb.out.below hSw).1.cell 1; simp only [List.getElem?_cons_succ, List.getElem?_cons_zero] at cc1; go_simp <;> with_reducible rfl
     try simp only [Act.put, TA, TB, TC]
     refine TD (i := 16) (oi := ⟨some 258, _, _, _, _, _⟩) (v := ?_) rfl (by kernel_rfl) (by kernel_rfl) (by kernel_rfl) (fun _ _ _ h => h) (Or.inl ⟨by kernel_rfl, ?_⟩) hHeld ?_
     rotate_left
     · intro w1 hSw; (try dsimp only at hSw); go_simp <;> with_reducible rfl
     try simp only [Act.put, TA, TB, TC]
     refine TD (i := 17) (oi := ⟨some 259, _, _, _, _, _⟩) (v := ?_) rfl (by kernel_rfl) (by kernel_rfl) (by kernel_rfl) (fun _ _ _ h => h) (Or.inl ⟨by kernel_rfl, ?_⟩) hHeld ?_
     rotate_left
     · intro w1 hSw; (try dsimp only at hSw); have cc0 := (HMK7.out.old hSw).cell 0; simp only [List.getElem?_cons_succ, List.getElem?_cons_zero] at cc0; go_simp <;> with_reducible rfl
     try simp only [Act.put, TA, TB, TC]
     refine TD (i := 18) (oi := ⟨some 260, _, _, _, _, _⟩) (v := ?_) rfl (by kernel_rfl) (by kernel_rfl) (by kernel_rfl) (fun _ _ _ h => h) (Or.inl ⟨by kernel_rfl, ?_⟩) hHeld ?_
     rotate_left
     · intro w1 hSw; (try dsimp only at hSw); go_simp <;> with_reducible rfl
     try simp only [Act.put, TA, TB, TC]
     refine TD (i := 19) (oi := ⟨some 261, _, _, _, _, _⟩) (v := ?_) rfl (by kernel_rfl) (by kernel_rfl) (by kernel_rfl) (fun _ _ _ h => h) (Or.inl ⟨by kernel_rfl, ?_⟩) hHeld ?_
     rotate_left
     · intro w1 hSw; (try dsimp only at hSw); go_simp <;> with_reducible rfl
     try simp only [Act.put, TA, TB, TC]
     refine TD (i := 20) (oi := ⟨some 262, _, _, _, _, _⟩) (v := ?_) rfl (by kernel_rfl) (by kernel_rfl) (by kernel_rfl) (fun _ _ _ h => h) (Or.inl ⟨by kernel_rfl, ?_⟩) hHeld ?_
     rotate_left
     · intro w1 hSw; (try dsimp only at hSw); go_simp <;> with_reducible rfl
     try simp only [Act.put, TA, TB, TC]
     refine TD (i := 21) (oi := ⟨some 263, _, _, _, _, _⟩) (v := ?_) rfl (by kernel_rfl) (by kernel_rfl) (by kernel_rfl) (fun _ _ _ h => h) (Or.inl ⟨by kernel_rfl, ?_⟩) hHeld ?_
     rotate_left
     · intro w1 hSw; (try dsimp only at hSw); have cc0 := (HS.out.keep hSw).1.cell 0; simp only [List.getElem?_cons_succ, List.getElem?_cons_zero] at cc0; go_simp <;> with_reducible rfl
     try simp only [Act.put, TA, TB, TC]
     refine TD (i := 22) (oi := ⟨some 264, _, _, _, _, _⟩) (v := ?_) rfl (by kernel_rfl) (by kernel_rfl) (by kernel_rfl) (fun _ _ _ h => h) (Or.inl ⟨by kernel_rfl, ?_⟩) hHeld ?_
     rotate_left
     · intro w1 hSw; (try dsimp only at hSw); go_simp <;> with_reducible rfl
     try simp only [Act.put, TA, TB, TC]
     refine TD (i := 23) (oi := ⟨some 265, _, _, _, _, _⟩) (v := ?_) rfl (by kernel_rfl) (by kernel_rfl) (by kernel_rfl) (fun _ _ _ h => h) (Or.inl ⟨by kernel_rfl, ?_⟩) hHeld ?_
     rotate_left
     · intro w1 hSw; (try dsimp only at hSw); have cc1 := (HS.out.keep hSw).1.cell 1; simp only [List.getElem?_cons_succ, List.getElem?_cons_zero] at cc1; go_simp <;> with_reducible rfl
     try simp only [Act.put, TA, TB, TC]
     refine TD (i := 24) (oi := ⟨some 266, _, _, _, _, _⟩) (v := ?_) rfl (by kernel_rfl) (by kernel_rfl) (by kernel_rfl) (fun _ _ _ h => h) (Or.inl ⟨by kernel_rfl, ?_⟩) hHeld ?_
     rotate_left
     · intro w1 hSw; (try dsimp only at hSw); go_simp <;> with_reducible rfl
     try simp only [Act.put, TA, TB, TC]
     refine TD (i := 25) (oi := ⟨some 267, _, _, _, _, _⟩) (v := ?_) rfl (by kernel_rfl) (by kernel_rfl) (by kernel_rfl) (fun _ _ _ h => h) (Or.inl ⟨by kernel_rfl, ?_⟩) hHeld ?_
     rotate_left
     · intro w1 hSw; (try dsimp only at hSw); have cc3 := (HS.out.keep hSw).1.cell 3; simp only [List.getElem?_cons_succ, List.getElem?_cons_zero] at cc3; go_simp <;> with_reducible rfl
     try simp only [Act.put, TA, TB, TC]
     refine TD (i := 26) (oi := ⟨some 268, _, _, _, _, _⟩) (v := ?_) rfl (by kernel_rfl) (by kernel_rfl) (by kernel_rfl) (fun _ _ _ h => h) (Or.inl ⟨by kernel_rfl, ?_⟩) hHeld ?_
     rotate_left
     · intro w1 hSw; (try dsimp only at hSw); go_simp <;> with_reducible rfl
     try simp only [Act.put, TA, TB, TC]
     refine TD (i := 27) (oi := ⟨some 269, _, _, _, _, _⟩) (v := ?_) rfl (by kernel_rfl) (by kernel_rfl) (by kernel_rfl) (fun _ _ _ h => h) (Or.inl ⟨by kernel_rfl, ?_⟩) hHeld ?_
     rotate_left
     · intro w1 hSw; (try dsimp only at hSw); go_simp <;> with_reducible rfl
     try simp only [Act.put, TA, TB, TC]
     refine TD (i := 28) (oi := ⟨some 270, _, _, _, _, _⟩) (v := ?_) rfl (by kernel_rfl) (by kernel_rfl) (by kernel_rfl) (fun _ _ _ h => h) (Or.inl ⟨by kernel_rfl, ?_⟩) hHeld ?_
     rotate_left
     · intro w1 hSw; (try dsimp only at hSw); go_simp <;> with_reducible rfl
     try simp only [Act.put, TA, TB, TC]
     refine TD (i := 29) (oi := ⟨some 271, _, _, _, _, _⟩) (v := ?_) rfl (by kernel_rfl) (by kernel_rfl) (by kernel_rfl) (fun _ _ _ h => h) (Or.inl ⟨by kernel_rfl, ?_⟩) hHeld ?_
     rotate_left
     · intro w1 hSw; (try dsimp only at hSw); have x1' := keepC x1 hSw; have x2' := keepC x2 hSw; go_simp <;> with_reducible rfl
     try simp only [Act.put, TA, TB, TC]
     refine TD (i := 30) (oi := ⟨some 272, _, _, _, _, _⟩) (v := ?_) rfl (by kernel_rfl) (by kernel_rfl) (by kernel_rfl) (fun _ _ _ h => h) (Or.inl ⟨by kernel_rfl, ?_⟩) hHeld ?_
     rotate_left
     · intro w1 hSw; (try dsimp only at hSw); go_simp <;> with_reducible rfl
     try simp only [Act.put, TA, TB, TC]
     refine TD (i := 31) (oi := ⟨some 273, _, _, _, _, _⟩) (v := ?_) rfl (by kernel_rfl) (by kernel_rfl) (by kernel_rfl) (fun _ _ _ h => h) (Or.inl ⟨by kernel_rfl, ?_⟩) hHeld ?_
     rotate_left
     · intro w1 hSw; (try dsimp only at hSw); go_simp <;> with_reducible rfl
     try simp only [Act.put, TA, TB, TC]
     refine TD (i := 32) (oi := ⟨some 274, _, _, _, _, _⟩) (v := ?_) rfl (by kernel_rfl) (by kernel_rfl) (by kernel_rfl) (fun _ _ _ h => h) (Or.inl ⟨by kernel_rfl, ?_⟩) hHeld ?_
     rotate_left
     · intro w1 hSw; (try dsimp only at hSw); go_simp <;> with_reducible rfl
     try simp only [Act.put, TA, TB, TC]
     refine TD (i := 33) (oi := ⟨some 275, _, _, _, _, _⟩) (v := ?_) rfl (by kernel_rfl) (by kernel_rfl) (by kernel_rfl) (fun _ _ _ h => h) (Or.inl ⟨by kernel_rfl, ?_⟩) hHeld ?_
     rotate_left
     · intro w1 hSw; (try dsimp only at hSw); go_simp <;> with_reducible rfl
     try simp only [Act.put, TA, TB, TC]
     refine TD (i := 34) (oi := ⟨some 276, _, _, _, _, _⟩) (v := ?_) rfl (by kernel_rfl) (by kernel_rfl) (by kernel_rfl) (fun _ _ _ h => h) (Or.inl ⟨by kernel_rfl, ?_⟩) hHeld ?_
     rotate_left
     · intro w1 hSw; (try dsimp only at hSw); go_simp <;> with_reducible rfl
     try simp only [Act.put, TA, TB, TC]
     refine TD (i := 35) (oi := ⟨some 277, _, _, _, _, _⟩) (v := ?_) rfl (by kernel_rfl) (by kernel_rfl) (by kernel_rfl) (fun _ _ _ h => h) (Or.inl ⟨by kernel_rfl, ?_⟩) hHeld ?_
     rotate_left
     · intro w1 hSw; (try dsimp only at hSw); go_simp <;> with_reducible rfl
     try simp only [Act.put, TA, TB, TC]
     refine TD (i := 36) (oi := ⟨some 278, _, _, _, _, _⟩) (v := ?_) rfl (by kernel_rfl) (by kernel_rfl) (by kernel_rfl) (fun _ _ _ h => h) (Or.inl ⟨by kernel_rfl, ?_⟩) hHeld ?_
     rotate_left
     · intro w1 hSw; (try dsimp only at hSw); have cc1 := (HMK7.out.old hSw).cell 1; simp only [List.getElem?_cons_succ, List.getElem?_cons_zero] at cc1; go_simp <;> with_reducible rfl
     try simp only [Act.put, TA, TB, TC]
     refine TD (i := 37) (oi := ⟨some 279, _, _, _, _, _⟩) (v := ?_) rfl (by kernel_rfl) (by kernel_rfl) (by kernel_rfl) (fun _ _ _ h => h) (Or.inl ⟨by kernel_rfl, ?_⟩) hHeld ?_
     rotate_left
     · intro w1 hSw; (try dsimp only at hSw); go_simp <;> with_reducible rfl
     try simp only [Act.put, TA, TB, TC]
     refine TD (i := 38) (oi := ⟨some 280, _, _, _, _, _⟩) (v := ?_) rfl (by kernel_rfl) (by kernel_rfl) (by kernel_rfl) (fun _ _ _ h => h) (Or.inl ⟨by kernel_rfl, ?_⟩) hHeld ?_
     rotate_left
     · intro w1 hSw; (try dsimp only at hSw); have cc3 := (HS.out.keep hSw).1.cell 3; simp only [List.getElem?_cons_succ, List.getElem?_cons_zero] at cc3; go_simp <;> with_reducible rfl
     try simp only [Act.put, TA, TB, TC]
     refine TD (i := 39) (oi := ⟨some 281, _, _, _, _, _⟩) (v := ?_) rfl (by kernel_rfl) (by kernel_rfl) (by kernel_rfl) (fun _ _ _ h => h) (Or.inl ⟨by kernel_rfl, ?_⟩) hHeld ?_
     rotate_left
     · intro w1 hSw; (try dsimp only at hSw); go_simp <;> with_reducible rfl
     try simp only [Act.put, TA, TB, TC]
     refine TD (i := 40) (oi := ⟨some 282, _, _, _, _, _⟩) (v := ?_) rfl (by kernel_rfl) (by kernel_rfl) (by kernel_rfl) (fun _ _ _ h => h) (Or.inl ⟨by kernel_rfl, ?_⟩) hHeld ?_
     rotate_left
     · intro w1 hSw; (try dsimp only at hSw); go_simp <;> with_reducible rfl
     try simp only [Act.put, TA, TB, TC]
     refine TD (i := 41) (oi := ⟨some 283, _, _, _, _, _⟩) (v := ?_) rfl (by kernel_rfl) (by kernel_rfl) (by kernel_rfl) (fun _ _ _ h => h) (Or.inl ⟨by kernel_rfl, ?_⟩) hHeld ?_
     rotate_left
     · intro w1 hSw; (try dsimp only at hSw); go_simp <;> with_reducible rfl
     try simp only [Act.put, TA, TB, TC]
     refine TD (i := 42) (oi := ⟨some 284, _, _, _, _, _⟩) (v := ?_) rfl (by kernel_rfl) (by kernel_rfl) (by kernel_rfl) (fun _ _ _ h => h) (Or.inl ⟨by kernel_rfl, ?_⟩) hHeld ?_
     rotate_left
     · intro w1 hSw; (try dsimp only at hSw); have x1' := keepC x1 hSw; have x2' := keepC x2 hSw; go_simp <;> with_reducible rfl
     try simp only [Act.put, TA, TB, TC]
     refine TD (i := 43) (oi := ⟨some 285, _, _, _, _, _⟩) (v := ?_) rfl (by kernel_rfl) (by kernel_rfl) (by kernel_rfl) (fun _ _ _ h => h) (Or.inl ⟨by kernel_rfl, ?_⟩) hHeld ?_
     rotate_left
     · intro w1 hSw; (try dsimp only at hSw); go_simp <;> with_reducible rfl
     try simp only [Act.put, TA, TB, TC]
     refine TD (i := 44) (oi := ⟨some 286, _, _, _, _, _⟩) (v := ?_) rfl (by kernel_rfl) (by kernel_rfl) (by kernel_rfl) (fun _ _ _ h => h) (Or.inl ⟨by kernel_rfl, ?_⟩) hHeld ?_
     rotate_left
     · intro w1 hSw; (try dsimp only at hSw); go_simp <;> with_reducible rfl
     try simp only [Act.put, TA, TB, TC]
     refine wpAnyH_done (by kernel_rfl) ?_ _
     go_wp2_with fail
     go_meet
     exact ⟨rfl, hHeld⟩
    case rest =>
     obtain ⟨rfl, hb⟩ := hcut
     have HBF := Lib.hid (HB7.out.trans (hb.mono HB7.out.size))
     clear hb
     go_wp2_with fail
     go_roundg (mb.length - (i + 1))
     case measure => omega
     case rel => exact ⟨i + 1, by omega, by go_num, HBF⟩
  · obtain rfl : i = mb.length := by omega
    obtain ⟨W18, hW⟩ : ∃ W18 : World, W18 = wr := ⟨_, rfl⟩
    subst hW
    go_upto_if 290 with fail
    go_cut [26, 27] from 290 to 302 (fun s26 s27 wx => Below W18.heap.size W18 wx)
    case first => as_aux_lemma =>
     by_cases hlt2 : lo < hi
     · have HJ2 := Lib.hid (HJn.out hlt2)
       have k1 : (lo : Int) < (hi : Int) := by omega
       go_upto_region 24 with fail
       refine wp_region_held_drew (S := fun V => Below W18.heap.size W18 V) (by kernel_rfl) ?_ (fun hHeld => ?_)
       · exact (Below.refl _ _).drew
       refine TD (i := 0) (oi := ⟨some 292, _, _, _, _, _⟩) (v := .agg #[.int .i64 sa, .int .i64 sp, .slice Aa xa.length ca, .slice Ba ma.length da]) rfl (by kernel_rfl) (by kernel_rfl) (by kernel_rfl) (fun _ _ _ h => h) (Or.inl ⟨by kernel_rfl, fun V hV => ex_row2 91 _ rfl ga rfl 91 [.int .i64 sa, .int .i64 sp, .slice Aa xa.length ca, .slice Ba ma.length da] _ Tryz.underlying91 rfl (by kernel_rfl) ((HRa.out.below hV).1)⟩) hHeld ?_
       try simp only [Act.put, TA, TB, TC]
       refine TD (i := 3) (oi := ⟨some 295, _, _, _, _, _⟩) (v := .agg #[.int .i64 sc, .int .i64 sp, .slice Ac xc.length cc, .slice Bc mc.length dc]) rfl (by kernel_rfl) (by kernel_rfl) (by kernel_rfl) (fun _ _ _ h => h) (Or.inl ⟨by kernel_rfl, fun V hV => ex_row2 91 _ rfl gc rfl 91 [.int .i64 sc, .int .i64 sp, .slice Ac xc.length cc, .slice Bc mc.length dc] _ Tryz.underlying91 rfl (by kernel_rfl) ((HRc.out.below hV).1)⟩) hHeld ?_
       try simp only [Act.put, TA, TB, TC]
       refine TG (rs := [1, 10]) (by kernel_rfl) (by simp) ?_
       refine TE rfl (fun K hK => ?_) (TE rfl (fun K hK => ?_) (TF))
       ·
        go_simp
        go_at_call 33
        refine (told_sl sa sp Aa Ba ca da xa ma _ (HRa.out.below hHeld).2 HXxa.out HMma.out).mono ?_
        rintro e v1 ⟨A1, c1, B1, d1, rfl, hs1, hb1⟩
        have zv1 := (hHeld.trans (hb1.mono hHeld.size)).size
        try go_simp
        refine hK.out _ _ ?_ (fun hHeld => ?_)
        · exact hHeld.trans (hb1.mono hHeld.size)
        clear hK K
        try simp only [Act.put, TA, TB, TC]
        refine TG (rs := [2, 10]) (by kernel_rfl) (by simp) ?_
        refine TE rfl (fun K hK => ?_) (TE rfl (fun K hK => ?_) (TF))
        ·
         go_simp
         go_at_call 30
         refine (given_sl sa sp A1 B1 c1 d1 xa ma _ (hs1) HXxa.out HMma.out).mono ?_
         rintro e v2 ⟨A2, c2, B2, d2, rfl, hs2, -, hb2⟩
         have zv2 := (hHeld.trans (hb2.mono hHeld.size)).size
         try go_simp
         refine hK.out _ _ ?_ (fun hHeld => ?_)
         · exact hHeld.trans (hb2.mono hHeld.size)
         clear hK K
         try simp only [Act.put, TA, TB, TC]
         refine TG (rs := [4, 10]) (by kernel_rfl) (by simp) ?_
         refine TE rfl (fun K hK => ?_) (TE rfl (fun K hK => ?_) (TF))
         ·
          go_simp
          go_at_call 33
          refine (told_sl sc sp Ac Bc cc dc xc mc _ (HRc.out.below hHeld).2 HXxc.out HMmc.out).mono ?_
          rintro e v4 ⟨A4, c4, B4, d4, rfl, hs4, hb4⟩
          have zv4 := (hHeld.trans (hb4.mono hHeld.size)).size
          try go_simp
          refine hK.out _ _ ?_ (fun hHeld => ?_)
          · exact hHeld.trans (hb4.mono hHeld.size)
          clear hK K
          try simp only [Act.put, TA, TB, TC]
          refine TG (rs := [5, 10]) (by kernel_rfl) (by simp) ?_
          refine TE rfl (fun K hK => ?_) (TE rfl (fun K hK => ?_) (TF))
          ·
           go_simp
           go_at_call 30
           refine (given_sl sc sp A4 B4 c4 d4 xc mc _ (hs4) HXxc.out HMmc.out).mono ?_
           rintro e v5 ⟨A5, c5, B5, d5, rfl, hs5, -, hb5⟩
           have zv5 := (hHeld.trans (hb5.mono hHeld.size)).size
           try go_simp
           refine hK.out _ _ ?_ (fun hHeld => ?_)
           · exact hHeld.trans (hb5.mono hHeld.size)
           clear hK K
           try simp only [Act.put, TA, TB, TC]
           refine TG (rs := [6, 10]) (by kernel_rfl) (by simp) ?_
           refine TE rfl (fun K hK => ?_) (TE rfl (fun K hK => ?_) (TF))
           ·
            go_simp
            go_at_call 32
            refine (HJ2.out _ _ _ _ _ _ _ _ _ (((hs2).below hb4).below hb5) (hs5)).mono ?_
            rintro e v9 ⟨rfl, hb9⟩
            have zv9 := (hHeld.trans (hb9.mono hHeld.size)).size
            try go_simp
            refine hK.out _ _ ?_ (fun hHeld => ?_)
            · exact hHeld.trans (hb9.mono hHeld.size)
            clear hK K
            try simp only [Act.put, TA, TB, TC]
            refine TD (i := 7) (oi := ⟨some 291, _, _, _, _, _⟩) (v := ?_) rfl (by kernel_rfl) (by kernel_rfl) (by kernel_rfl) (fun _ _ _ h => h) (Or.inl ⟨by kernel_rfl, ?_⟩) hHeld ?_
            rotate_left
            · intro w1 hSw; (try dsimp only at hSw); go_simp <;> with_reducible rfl
            try simp only [Act.put, TA, TB, TC]
            refine TD (i := 8) (oi := ⟨some 299, _, _, _, _, _⟩) (v := ?_) rfl (by kernel_rfl) (by kernel_rfl) (by kernel_rfl) (fun _ _ _ h => h) (Or.inl ⟨by kernel_rfl, ?_⟩) hHeld ?_
            rotate_left
            · intro w1 hSw; (try dsimp only at hSw); go_simp <;> with_reducible rfl
            try simp only [Act.put, TA, TB, TC]
            refine TD (i := 9) (oi := ⟨some 300, _, _, _, _, _⟩) (v := ?_) rfl (by kernel_rfl) (by kernel_rfl) (by kernel_rfl) (fun _ _ _ h => h) (Or.inl ⟨by kernel_rfl, ?_⟩) hHeld ?_
            rotate_left
            · intro w1 hSw; (try dsimp only at hSw); go_simp <;> with_reducible rfl
            try simp only [Act.put, TA, TB, TC]
            refine TG (rs := [10]) (by kernel_rfl) (by simp) ?_
            refine TE rfl (fun K hK => ?_) (TF)
            go_simp
            refine hK.out _ _ ?_ (fun hHeld => ?_)
            · exact hHeld.alloc hHeld.size _
            clear hK K
            try simp only [Act.put, TA, TB, TC]
            refine TG (rs := [11]) (by kernel_rfl) (by simp) ?_
            refine TE rfl (fun K hK => ?_) (TF)
            have hz := Row.new v9 91 zero4
            have hg : W18.heap.size ≤ v9.heap.size := zv9
            refine step_store_row rfl 91 _ _ rfl v9.heap.size [.int .i64 0, .int .i64 0, .slice none 0 0, .slice none 0 0] rfl rfl 91 zero4 hz (by kernel_rfl) rfl (by simp [Value.oneCell']) ?_
            refine hK.out _ _ ?_ (fun hHeld => ?_)
            · exact Below.setRow hHeld hg _
            clear hK K
            try simp only [Act.put, TA, TB, TC]
            refine TD (i := 12) (oi := ⟨some 27, _, _, _, _, _⟩) (v := ?_) rfl (by kernel_rfl) (by kernel_rfl) (by kernel_rfl) (fun _ _ _ h => h) (Or.inl ⟨by kernel_rfl, ?_⟩) hHeld ?_
            rotate_left
            · intro w1 hSw; (try dsimp only at hSw); go_simp <;> with_reducible rfl
            try simp only [Act.put, TA, TB, TC]
            refine wpAnyH_done (by kernel_rfl) ?_ _
            go_wp2_with fail
            go_meet
            exact hHeld
           ·
            go_simp
            refine hK.out _ _ ?_ (fun hHeld => ?_)
            · exact hHeld.alloc hHeld.size _
            clear hK K
            try simp only [Act.put, TA, TB, TC]
            refine TG (rs := [6]) (by kernel_rfl) (by simp) ?_
            refine TE rfl (fun K hK => ?_) (TF)
            go_simp
            go_at_call 32
            refine (HJ2.out _ _ _ _ _ _ _ _ _ ((((hs2).below hb4).below hb5).below ((Below.refl _ _).alloc (Nat.le_refl _) _)) ((hs5).below ((Below.refl _ _).alloc (Nat.le_refl _) _))).mono ?_
            rintro e v9 ⟨rfl, hb9⟩
            have zv9 := (hHeld.trans (hb9.mono hHeld.size)).size
            try go_simp
            refine hK.out _ _ ?_ (fun hHeld => ?_)
            · exact hHeld.trans (hb9.mono hHeld.size)
            clear hK K
            try simp only [Act.put, TA, TB, TC]
            refine TD (i := 7) (oi := ⟨some 291, _, _, _, _, _⟩) (v := ?_) rfl (by kernel_rfl) (by kernel_rfl) (by kernel_rfl) (fun _ _ _ h => h) (Or.inl ⟨by kernel_rfl, ?_⟩) hHeld ?_
            rotate_left
            · intro w1 hSw; (try dsimp only at hSw); go_simp <;> with_reducible rfl
            try simp only [Act.put, TA, TB, TC]
            refine TD (i := 8) (oi := ⟨some 299, _, _, _, _, _⟩) (v := ?_) rfl (by kernel_rfl) (by kernel_rfl) (by kernel_rfl) (fun _ _ _ h => h) (Or.inl ⟨by kernel_rfl, ?_⟩) hHeld ?_
            rotate_left
            · intro w1 hSw; (try dsimp only at hSw); go_simp <;> with_reducible rfl
            try simp only [Act.put, TA, TB, TC]
            refine TD (i := 9) (oi := ⟨some 300, _, _, _, _, _⟩) (v := ?_) rfl (by kernel_rfl) (by kernel_rfl) (by kernel_rfl) (fun _ _ _ h => h) (Or.inl ⟨by kernel_rfl, ?_⟩) hHeld ?_
            rotate_left
            · intro w1 hSw; (try dsimp only at hSw); go_simp <;> with_reducible rfl
            try simp only [Act.put, TA, TB, TC]
            refine TG (rs := [11]) (by kernel_rfl) (by simp) ?_
            refine TE rfl (fun K hK => ?_) (TF)
            have hz := (Row.new v5 91 zero4).old hb9
            have hg : W18.heap.size ≤ v5.heap.size := zv5
            refine step_store_row rfl 91 _ _ rfl v5.heap.size [.int .i64 0, .int .i64 0, .slice none 0 0, .slice none 0 0] rfl rfl 91 zero4 hz (by kernel_rfl) rfl (by simp [Value.oneCell']) ?_
            refine hK.out _ _ ?_ (fun hHeld => ?_)
            · exact Below.setRow hHeld hg _
            clear hK K
            try simp only [Act.put, TA, TB, TC]
            refine TD (i := 12) (oi := ⟨some 27, _, _, _, _, _⟩) (v := ?_) rfl (by kernel_rfl) (by kernel_rfl) (by kernel_rfl) (fun _ _ _ h => h) (Or.inl ⟨by kernel_rfl, ?_⟩) hHeld ?_
            rotate_left
            · intro w1 hSw; (try dsimp only at hSw); go_simp <;> with_reducible rfl
            try simp only [Act.put, TA, TB, TC]
            refine wpAnyH_done (by kernel_rfl) ?_ _
            go_wp2_with fail
            go_meet
            exact hHeld
          ·
           go_simp
           refine hK.out _ _ ?_ (fun hHeld => ?_)
           · exact hHeld.alloc hHeld.size _
           clear hK K
           try simp only [Act.put, TA, TB, TC]
           refine TG (rs := [5]) (by kernel_rfl) (by simp) ?_
           refine TE rfl (fun K hK => ?_) (TF)
           go_simp
           go_at_call 30
           refine (given_sl sc sp A4 B4 c4 d4 xc mc _ ((hs4).below ((Below.refl _ _).alloc (Nat.le_refl _) _)) HXxc.out HMmc.out).mono ?_
           rintro e v5 ⟨A5, c5, B5, d5, rfl, hs5, -, hb5⟩
           have zv5 := (hHeld.trans (hb5.mono hHeld.size)).size
           try go_simp
           refine hK.out _ _ ?_ (fun hHeld => ?_)
           · exact hHeld.trans (hb5.mono hHeld.size)
           clear hK K
           try simp only [Act.put, TA, TB, TC]
           refine TG (rs := [6]) (by kernel_rfl) (by simp) ?_
           refine TE rfl (fun K hK => ?_) (TF)
           go_simp
           go_at_call 32
           refine (HJ2.out _ _ _ _ _ _ _ _ _ ((((hs2).below hb4).below ((Below.refl _ _).alloc (Nat.le_refl _) _)).below hb5) (hs5)).mono ?_
           rintro e v9 ⟨rfl, hb9⟩
           have zv9 := (hHeld.trans (hb9.mono hHeld.size)).size
           try go_simp
           refine hK.out _ _ ?_ (fun hHeld => ?_)
           · exact hHeld.trans (hb9.mono hHeld.size)
           clear hK K
           try simp only [Act.put, TA, TB, TC]
           refine TD (i := 7) (oi := ⟨some 291, _, _, _, _, _⟩) (v := ?_) rfl (by kernel_rfl) (by kernel_rfl) (by kernel_rfl) (fun _ _ _ h => h) (Or.inl ⟨by kernel_rfl, ?_⟩) hHeld ?_
           rotate_left
           · intro w1 hSw; (try dsimp only at hSw); go_simp <;> with_reducible rfl
           try simp only [Act.put, TA, TB, TC]
           refine TD (i := 8) (oi := ⟨some 299, _, _, _, _, _⟩) (v := ?_) rfl (by kernel_rfl) (by kernel_rfl) (by kernel_rfl) (fun _ _ _ h => h) (Or.inl ⟨by kernel_rfl, ?_⟩) hHeld ?_
           rotate_left
           · intro w1 hSw; (try dsimp only at hSw); go_simp <;> with_reducible rfl
           try simp only [Act.put, TA, TB, TC]
           refine TD (i := 9) (oi := ⟨some 300, _, _, _, _, _⟩) (v := ?_) rfl (by kernel_rfl) (by kernel_rfl) (by kernel_rfl) (fun _ _ _ h => h) (Or.inl ⟨by kernel_rfl, ?_⟩) hHeld ?_
           rotate_left
           · intro w1 hSw; (try dsimp only at hSw); go_simp <;> with_reducible rfl
           try simp only [Act.put, TA, TB, TC]
           refine TG (rs := [11]) (by kernel_rfl) (by simp) ?_
           refine TE rfl (fun K hK => ?_) (TF)
           have hz := ((Row.new v4 91 zero4).old hb5).old hb9
           have hg : W18.heap.size ≤ v4.heap.size := zv4
           refine step_store_row rfl 91 _ _ rfl v4.heap.size [.int .i64 0, .int .i64 0, .slice none 0 0, .slice none 0 0] rfl rfl 91 zero4 hz (by kernel_rfl) rfl (by simp [Value.oneCell']) ?_
           refine hK.out _ _ ?_ (fun hHeld => ?_)
           · exact Below.setRow hHeld hg _
           clear hK K
           try simp only [Act.put, TA, TB, TC]
           refine TD (i := 12) (oi := ⟨some 27, _, _, _, _, _⟩) (v := ?_) rfl (by kernel_rfl) (by kernel_rfl) (by kernel_rfl) (fun _ _ _ h => h) (Or.inl ⟨by kernel_rfl, ?_⟩) hHeld ?_
           rotate_left
           · intro w1 hSw; (try dsimp only at hSw); go_simp <;> with_reducible rfl
           try simp only [Act.put, TA, TB, TC]
           refine wpAnyH_done (by kernel_rfl) ?_ _
           go_wp2_with fail
           go_meet
           exact hHeld
         ·
          go_simp
          refine hK.out _ _ ?_ (fun hHeld => ?_)
          · exact hHeld.alloc hHeld.size _
          clear hK K
          try simp only [Act.put, TA, TB, TC]
          refine TG (rs := [4]) (by kernel_rfl) (by simp) ?_
          refine TE rfl (fun K hK => ?_) (TF)
          go_simp
          go_at_call 33
          refine (told_sl sc sp Ac Bc cc dc xc mc _ (HRc.out.below hHeld).2 HXxc.out HMmc.out).mono ?_
          rintro e v4 ⟨A4, c4, B4, d4, rfl, hs4, hb4⟩
          have zv4 := (hHeld.trans (hb4.mono hHeld.size)).size
          try go_simp
          refine hK.out _ _ ?_ (fun hHeld => ?_)
          · exact hHeld.trans (hb4.mono hHeld.size)
          clear hK K
          try simp only [Act.put, TA, TB, TC]
          refine TG (rs := [5]) (by kernel_rfl) (by simp) ?_
          refine TE rfl (fun K hK => ?_) (TF)
          go_simp
          go_at_call 30
          refine (given_sl sc sp A4 B4 c4 d4 xc mc _ (hs4) HXxc.out HMmc.out).mono ?_
          rintro e v5 ⟨A5, c5, B5, d5, rfl, hs5, -, hb5⟩
          have zv5 := (hHeld.trans (hb5.mono hHeld.size)).size
          try go_simp
          refine hK.out _ _ ?_ (fun hHeld => ?_)
          · exact hHeld.trans (hb5.mono hHeld.size)
          clear hK K
          try simp only [Act.put, TA, TB, TC]
          refine TG (rs := [6]) (by kernel_rfl) (by simp) ?_
          refine TE rfl (fun K hK => ?_) (TF)
          go_simp
          go_at_call 32
          refine (HJ2.out _ _ _ _ _ _ _ _ _ ((((hs2).below ((Below.refl _ _).alloc (Nat.le_refl _) _)).below hb4).below hb5) (hs5)).mono ?_
          rintro e v9 ⟨rfl, hb9⟩
          have zv9 := (hHeld.trans (hb9.mono hHeld.size)).size
          try go_simp
          refine hK.out _ _ ?_ (fun hHeld => ?_)
          · exact hHeld.trans (hb9.mono hHeld.size)
          clear hK K
          try simp only [Act.put, TA, TB, TC]
          refine TD (i := 7) (oi := ⟨some 291, _, _, _, _, _⟩) (v := ?_) rfl (by kernel_rfl) (by kernel_rfl) (by kernel_rfl) (fun _ _ _ h => h) (Or.inl ⟨by kernel_rfl, ?_⟩) hHeld ?_
          rotate_left
          · intro w1 hSw; (try dsimp only at hSw); go_simp <;> with_reducible rfl
          try simp only [Act.put, TA, TB, TC]
          refine TD (i := 8) (oi := ⟨some 299, _, _, _, _, _⟩) (v := ?_) rfl (by kernel_rfl) (by kernel_rfl) (by kernel_rfl) (fun _ _ _ h => h) (Or.inl ⟨by kernel_rfl, ?_⟩) hHeld ?_
          rotate_left
          · intro w1 hSw; (try dsimp only at hSw); go_simp <;> with_reducible rfl
          try simp only [Act.put, TA, TB, TC]
          refine TD (i := 9) (oi := ⟨some 300, _, _, _, _, _⟩) (v := ?_) rfl (by kernel_rfl) (by kernel_rfl) (by kernel_rfl) (fun _ _ _ h => h) (Or.inl ⟨by kernel_rfl, ?_⟩) hHeld ?_
          rotate_left
          · intro w1 hSw; (try dsimp only at hSw); go_simp <;> with_reducible rfl
          try simp only [Act.put, TA, TB, TC]
          refine TG (rs := [11]) (by kernel_rfl) (by simp) ?_
          refine TE rfl (fun K hK => ?_) (TF)
          have hz := (((Row.new v2 91 zero4).old hb4).old hb5).old hb9
          have hg : W18.heap.size ≤ v2.heap.size := zv2
          refine step_store_row rfl 91 _ _ rfl v2.heap.size [.int .i64 0, .int .i64 0, .slice none 0 0, .slice none 0 0] rfl rfl 91 zero4 hz (by kernel_rfl) rfl (by simp [Value.oneCell']) ?_
          refine hK.out _ _ ?_ (fun hHeld => ?_)
          · exact Below.setRow hHeld hg _
          clear hK K
          try simp only [Act.put, TA, TB, TC]
          refine TD (i := 12) (oi := ⟨some 27, _, _, _, _, _⟩) (v := ?_) rfl (by kernel_rfl) (by kernel_rfl) (by kernel_rfl) (fun _ _ _ h => h) (Or.inl ⟨by kernel_rfl, ?_⟩) hHeld ?_
          rotate_left
          · intro w1 hSw; (try dsimp only at hSw); go_simp <;> with_reducible rfl
          try simp only [Act.put, TA, TB, TC]
          refine wpAnyH_done (by kernel_rfl) ?_ _
          go_wp2_with fail
          go_meet
          exact hHeld
        ·
         go_simp
         refine hK.out _ _ ?_ (fun hHeld => ?_)
         · exact hHeld.alloc hHeld.size _
         clear hK K
         try simp only [Act.put, TA, TB, TC]
         refine TG (rs := [2]) (by kernel_rfl) (by simp) ?_
         refine TE rfl (fun K hK => ?_) (TF)
         go_simp
         go_at_call 30
         refine (given_sl sa sp A1 B1 c1 d1 xa ma _ ((hs1).below ((Below.refl _ _).alloc (Nat.le_refl _) _)) HXxa.out HMma.out).mono ?_
         rintro e v2 ⟨A2, c2, B2, d2, rfl, hs2, -, hb2⟩
         have zv2 := (hHeld.trans (hb2.mono hHeld.size)).size
         try go_simp
         refine hK.out _ _ ?_ (fun hHeld => ?_)
         · exact hHeld.trans (hb2.mono hHeld.size)
         clear hK K
         try simp only [Act.put, TA, TB, TC]
         refine TG (rs := [4]) (by kernel_rfl) (by simp) ?_
         refine TE rfl (fun K hK => ?_) (TF)
         go_simp
         go_at_call 33
         refine (told_sl sc sp Ac Bc cc dc xc mc _ (HRc.out.below hHeld).2 HXxc.out HMmc.out).mono ?_
         rintro e v4 ⟨A4, c4, B4, d4, rfl, hs4, hb4⟩
         have zv4 := (hHeld.trans (hb4.mono hHeld.size)).size
         try go_simp
         refine hK.out _ _ ?_ (fun hHeld => ?_)
         · exact hHeld.trans (hb4.mono hHeld.size)
         clear hK K
         try simp only [Act.put, TA, TB, TC]
         refine TG (rs := [5]) (by kernel_rfl) (by simp) ?_
         refine TE rfl (fun K hK => ?_) (TF)
         go_simp
         go_at_call 30
         refine (given_sl sc sp A4 B4 c4 d4 xc mc _ (hs4) HXxc.out HMmc.out).mono ?_
         rintro e v5 ⟨A5, c5, B5, d5, rfl, hs5, -, hb5⟩
         have zv5 := (hHeld.trans (hb5.mono hHeld.size)).size
         try go_simp
         refine hK.out _ _ ?_ (fun hHeld => ?_)
         · exact hHeld.trans (hb5.mono hHeld.size)
         clear hK K
         try simp only [Act.put, TA, TB, TC]
         refine TG (rs := [6]) (by kernel_rfl) (by simp) ?_
         refine TE rfl (fun K hK => ?_) (TF)
         go_simp
         go_at_call 32
         refine (HJ2.out _ _ _ _ _ _ _ _ _ (((hs2).below hb4).below hb5) (hs5)).mono ?_
         rintro e v9 ⟨rfl, hb9⟩
         have zv9 := (hHeld.trans (hb9.mono hHeld.size)).size
         try go_simp
         refine hK.out _ _ ?_ (fun hHeld => ?_)
         · exact hHeld.trans (hb9.mono hHeld.size)
         clear hK K
         try simp only [Act.put, TA, TB, TC]
         refine TD (i := 7) (oi := ⟨some 291, _, _, _, _, _⟩) (v := ?_) rfl (by kernel_rfl) (by kernel_rfl) (by kernel_rfl) (fun _ _ _ h => h) (Or.inl ⟨by kernel_rfl, ?_⟩) hHeld ?_
         rotate_left
         · intro w1 hSw; (try dsimp only at hSw); go_simp <;> with_reducible rfl
         try simp only [Act.put, TA, TB, TC]
         refine TD (i := 8) (oi := ⟨some 299, _, _, _, _, _⟩) (v := ?_) rfl (by kernel_rfl) (by kernel_rfl) (by kernel_rfl) (fun _ _ _ h => h) (Or.inl ⟨by kernel_rfl, ?_⟩) hHeld ?_
         rotate_left
         · intro w1 hSw; (try dsimp only at hSw); go_simp <;> with_reducible rfl
         try simp only [Act.put, TA, TB, TC]
         refine TD (i := 9) (oi := ⟨some 300, _, _, _, _, _⟩) (v := ?_) rfl (by kernel_rfl) (by kernel_rfl) (by kernel_rfl) (fun _ _ _ h => h) (Or.inl ⟨by kernel_rfl, ?_⟩) hHeld ?_
         rotate_left
         · intro w1 hSw; (try dsimp only at hSw); go_simp <;> with_reducible rfl
         try simp only [Act.put, TA, TB, TC]
         refine TG (rs := [11]) (by kernel_rfl) (by simp) ?_
         refine TE rfl (fun K hK => ?_) (TF)
         have hz := ((((Row.new v1 91 zero4).old hb2).old hb4).old hb5).old hb9
         have hg : W18.heap.size ≤ v1.heap.size := zv1
         refine step_store_row rfl 91 _ _ rfl v1.heap.size [.int .i64 0, .int .i64 0, .slice none 0 0, .slice none 0 0] rfl rfl 91 zero4 hz (by kernel_rfl) rfl (by simp [Value.oneCell']) ?_
         refine hK.out _ _ ?_ (fun hHeld => ?_)
         · exact Below.setRow hHeld hg _
         clear hK K
         try simp only [Act.put, TA, TB, TC]
         refine TD (i := 12) (oi := ⟨some 27, _, _, _, _, _⟩) (v := ?_) rfl (by kernel_rfl) (by kernel_rfl) (by kernel_rfl) (fun _ _ _ h => h) (Or.inl ⟨by kernel_rfl, ?_⟩) hHeld ?_
         rotate_left
         · intro w1 hSw; (try dsimp only at hSw); go_simp <;> with_reducible rfl
         try simp only [Act.put, TA, TB, TC]
         refine wpAnyH_done (by kernel_rfl) ?_ _
         go_wp2_with fail
         go_meet
         exact hHeld
       ·
        go_simp
        refine hK.out _ _ ?_ (fun hHeld => ?_)
        · exact hHeld.alloc hHeld.size _
        clear hK K
        try simp only [Act.put, TA, TB, TC]
        refine TG (rs := [1]) (by kernel_rfl) (by simp) ?_
        refine TE rfl (fun K hK => ?_) (TF)
        go_simp
        go_at_call 33
        refine (told_sl sa sp Aa Ba ca da xa ma _ (HRa.out.below hHeld).2 HXxa.out HMma.out).mono ?_
        rintro e v1 ⟨A1, c1, B1, d1, rfl, hs1, hb1⟩
        have zv1 := (hHeld.trans (hb1.mono hHeld.size)).size
        try go_simp
        refine hK.out _ _ ?_ (fun hHeld => ?_)
        · exact hHeld.trans (hb1.mono hHeld.size)
        clear hK K
        try simp only [Act.put, TA, TB, TC]
        refine TG (rs := [2]) (by kernel_rfl) (by simp) ?_
        refine TE rfl (fun K hK => ?_) (TF)
        go_simp
        go_at_call 30
        refine (given_sl sa sp A1 B1 c1 d1 xa ma _ (hs1) HXxa.out HMma.out).mono ?_
        rintro e v2 ⟨A2, c2, B2, d2, rfl, hs2, -, hb2⟩
        have zv2 := (hHeld.trans (hb2.mono hHeld.size)).size
        try go_simp
        refine hK.out _ _ ?_ (fun hHeld => ?_)
        · exact hHeld.trans (hb2.mono hHeld.size)
        clear hK K
        try simp only [Act.put, TA, TB, TC]
        refine TG (rs := [4]) (by kernel_rfl) (by simp) ?_
        refine TE rfl (fun K hK => ?_) (TF)
        go_simp
        go_at_call 33
        refine (told_sl sc sp Ac Bc cc dc xc mc _ (HRc.out.below hHeld).2 HXxc.out HMmc.out).mono ?_
        rintro e v4 ⟨A4, c4, B4, d4, rfl, hs4, hb4⟩
        have zv4 := (hHeld.trans (hb4.mono hHeld.size)).size
        try go_simp
        refine hK.out _ _ ?_ (fun hHeld => ?_)
        · exact hHeld.trans (hb4.mono hHeld.size)
        clear hK K
        try simp only [Act.put, TA, TB, TC]
        refine TG (rs := [5]) (by kernel_rfl) (by simp) ?_
        refine TE rfl (fun K hK => ?_) (TF)
        go_simp
        go_at_call 30
        refine (given_sl sc sp A4 B4 c4 d4 xc mc _ (hs4) HXxc.out HMmc.out).mono ?_
        rintro e v5 ⟨A5, c5, B5, d5, rfl, hs5, -, hb5⟩
        have zv5 := (hHeld.trans (hb5.mono hHeld.size)).size
        try go_simp
        refine hK.out _ _ ?_ (fun hHeld => ?_)
        · exact hHeld.trans (hb5.mono hHeld.size)
        clear hK K
        try simp only [Act.put, TA, TB, TC]
        refine TG (rs := [6]) (by kernel_rfl) (by simp) ?_
        refine TE rfl (fun K hK => ?_) (TF)
        go_simp
        go_at_call 32
        refine (HJ2.out _ _ _ _ _ _ _ _ _ (((hs2).below hb4).below hb5) (hs5)).mono ?_
        rintro e v9 ⟨rfl, hb9⟩
        have zv9 := (hHeld.trans (hb9.mono hHeld.size)).size
        try go_simp
        refine hK.out _ _ ?_ (fun hHeld => ?_)
        · exact hHeld.trans (hb9.mono hHeld.size)
        clear hK K
        try simp only [Act.put, TA, TB, TC]
        refine TD (i := 7) (oi := ⟨some 291, _, _, _, _, _⟩) (v := ?_) rfl (by kernel_rfl) (by kernel_rfl) (by kernel_rfl) (fun _ _ _ h => h) (Or.inl ⟨by kernel_rfl, ?_⟩) hHeld ?_
        rotate_left
        · intro w1 hSw; (try dsimp only at hSw); go_simp <;> with_reducible rfl
        try simp only [Act.put, TA, TB, TC]
        refine TD (i := 8) (oi := ⟨some 299, _, _, _, _, _⟩) (v := ?_) rfl (by kernel_rfl) (by kernel_rfl) (by kernel_rfl) (fun _ _ _ h => h) (Or.inl ⟨by kernel_rfl, ?_⟩) hHeld ?_
        rotate_left
        · intro w1 hSw; (try dsimp only at hSw); go_simp <;> with_reducible rfl
        try simp only [Act.put, TA, TB, TC]
        refine TD (i := 9) (oi := ⟨some 300, _, _, _, _, _⟩) (v := ?_) rfl (by kernel_rfl) (by kernel_rfl) (by kernel_rfl) (fun _ _ _ h => h) (Or.inl ⟨by kernel_rfl, ?_⟩) hHeld ?_
        rotate_left
        · intro w1 hSw; (try dsimp only at hSw); go_simp <;> with_reducible rfl
        try simp only [Act.put, TA, TB, TC]
        refine TG (rs := [11]) (by kernel_rfl) (by simp) ?_
        refine TE rfl (fun K hK => ?_) (TF)
        have hz := (((((Row.new W18.drew 91 zero4).old hb1).old hb2).old hb4).old hb5).old hb9
        have hg : W18.heap.size ≤ W18.heap.size := Nat.le_refl _
        refine step_store_row rfl 91 _ _ rfl W18.heap.size [.int .i64 0, .int .i64 0, .slice none 0 0, .slice none 0 0] rfl rfl 91 zero4 hz (by kernel_rfl) rfl (by simp [Value.oneCell']) ?_
        refine hK.out _ _ ?_ (fun hHeld => ?_)
        · exact Below.setRow hHeld hg _
        clear hK K
        try simp only [Act.put, TA, TB, TC]
        refine TD (i := 12) (oi := ⟨some 27, _, _, _, _, _⟩) (v := ?_) rfl (by kernel_rfl) (by kernel_rfl) (by kernel_rfl) (fun _ _ _ h => h) (Or.inl ⟨by kernel_rfl, ?_⟩) hHeld ?_
        rotate_left
        · intro w1 hSw; (try dsimp only at hSw); go_simp <;> with_reducible rfl
        try simp only [Act.put, TA, TB, TC]
        refine wpAnyH_done (by kernel_rfl) ?_ _
        go_wp2_with fail
        go_meet
        exact hHeld
     · have k1 : ¬ (lo : Int) < (hi : Int) := by omega
       go_wp2_with fail
       go_meet
       exact Below.refl _ _
    case rest =>
    have hb := hcut
    clear hcut
    have HS' := Lib.hid (HS.out.keep hb)
    have HRa' := Lib.hid (HRa.out.below hb)
    have HRb' := Lib.hid (HRb.out.below hb)
    have HRc' := Lib.hid (HRc.out.below hb)
    clear HS HRa HRb HRc
    have HS := HS'; have HRa := HRa'; have HRb := HRb'; have HRc := HRc'
    clear HS' HRa' HRb' HRc'
    clear hb HJn HRa HRb HRc HBL
    obtain ⟨W27, hW⟩ : ∃ W27 : World, W27 = wc := ⟨_, rfl⟩
    subst hW
    have t0 := HS.out.2.1.cell 2
    simp only [List.getElem?_cons_succ, List.getElem?_cons_zero] at t0
    go_upto_region 27 with fail
    go_cut [28] from 303 to 306 (fun s28 wx => s28 = .int .i64 (sh : Int) ∧ Below W27.heap.size W27 wx)
    case first => as_aux_lemma =>
     have hshI := HSHI.out
     go_wp2
     go_meet
     exact ⟨by first | rfl | exact congrArg (Value.int .i64) hshI, Below.refl _ _⟩
    case rest =>
    obtain ⟨rfl, hb⟩ := hcut
    have HS' := Lib.hid (HS.out.keep hb)
    clear HS hb t0
    have HS := HS'
    clear HS'
    obtain ⟨W28, hW⟩ : ∃ W28 : World, W28 = wc := ⟨_, rfl⟩
    subst hW
    go_upto_region 28 with fail
    go_cut [29] from 307 to 311 (fun s29 wx => ∃ LA lc, s29 = .slice LA (sh + xs.length) lc ∧ Rd wx LA (flts (List.replicate sh 0 ++ xs)) ∧ Below W28.heap.size W28 wx)
    case first => as_aux_lemma =>
     have hmk1 := fun W : World => make1 (P := Tryz.prog) 45 27 (.float .f32 0) 4 Tryz.underlying45 info37 rfl sh (by omega) (by omega) W
     refine wp_region_held_drew (S := fun V => Below W28.heap.size W28 V) (by kernel_rfl) ?_ (fun hHeld => ?_)
     · exact (Below.refl _ _).drew
     refine TD (i := 0) (oi := ⟨some 307, _, _, _, _, _⟩) (v := ?_) rfl (by kernel_rfl) (by kernel_rfl) (by kernel_rfl) (fun _ _ _ h => h) (Or.inl ⟨by kernel_rfl, ?_⟩) hHeld ?_
     rotate_left
     · intro w1 hSw; (try dsimp only at hSw); go_simp <;> with_reducible rfl
     try simp only [Act.put, TA, TB, TC]
     refine TD (i := 2) (oi := ⟨some 309, _, _, _, _, _⟩) (v := ?_) rfl (by kernel_rfl) (by kernel_rfl) (by kernel_rfl) (fun _ _ _ h => h) (Or.inl ⟨by kernel_rfl, ?_⟩) hHeld ?_
     rotate_left
     · intro w1 hSw; (try dsimp only at hSw); go_simp <;> with_reducible rfl
     try simp only [Act.put, TA, TB, TC]
     refine TD (i := 3) (oi := ⟨some 310, _, _, _, _, _⟩) (v := ?_) rfl (by kernel_rfl) (by kernel_rfl) (by kernel_rfl) (fun _ _ _ h => h) (Or.inl ⟨by kernel_rfl, ?_⟩) hHeld ?_
     rotate_left
     · intro w1 hSw; (try dsimp only at hSw); have cc2 := (HS.out.keep hSw).1.cell 2; simp only [List.getElem?_cons_succ, List.getElem?_cons_zero] at cc2; go_simp <;> with_reducible rfl
     try simp only [Act.put, TA, TB, TC]
     refine TG (rs := [1]) (by kernel_rfl) (by simp) ?_
     refine TE rfl (fun K hK => ?_) TF
     go_simp
     refine hK.out _ _ ?_ (fun hHeld => ?_)
     · exact hHeld.alloc hHeld.size _
     clear hK K
     try simp only [Act.put, TA, TB, TC]
     refine TG (rs := [4]) (by kernel_rfl) (by simp) ?_
     refine TE rfl (fun K hK => ?_) TF
     have hrow := Row.new W28.drew 27 (List.replicate sh (Value.float .f32 0))
     have hown := row_owns hrow 1 sh W28.heap.size (by simp) (by unfold maxLen; omega) (Nat.le_refl _)
     refine step_app_rd rfl (.tmp 308) (.tmp 310) 45 rfl W28.heap.size 27 (.float .f32 0) 1 4 Tryz.underlying45 info37 rfl (by decide) (.slice (some ⟨W28.heap.size, 0, none⟩) sh sh) sh (List.replicate sh (Value.float .f32 0)) rfl hown A xs.length c (flts xs) rfl HCA.out (HS.out.keep hHeld).2.2.1 (by simp [flts]) (by intro u hu; obtain ⟨q, -, rfl⟩ := List.mem_map.1 hu; rfl) (by unfold maxLen; omega) (by omega) (by simp) ?_
     intro vA vW hA2 hg2
     change K (Act.put _ (some 311) vA) vW
     obtain ⟨LA, lc, rfl, hRA⟩ := owned_slice hA2
     refine hK.out _ _ ?_ (fun hHeld => ?_)
     · exact hHeld.grown hg2 hHeld.size (fun j hj => by simp [Value.ownBlock] at hj; omega)
     clear hK K
     try simp only [Act.put, TA, TB, TC]
     refine TD (i := 5) (oi := ⟨some 29, _, _, _, _, _⟩) (v := ?_) rfl (by kernel_rfl) (by kernel_rfl) (by kernel_rfl) (fun _ _ _ h => h) (Or.inl ⟨by kernel_rfl, ?_⟩) hHeld ?_
     rotate_left
     · intro w1 hSw; (try dsimp only at hSw); go_simp <;> with_reducible rfl
     try simp only [Act.put, TA, TB, TC]
     refine wpAnyH_done (by kernel_rfl) ?_ _
     go_wp2_with fail
     go_meet
     exact ⟨LA, lc, rfl, by simpa [flts] using hRA, hHeld⟩
    case rest =>
    obtain ⟨LA, lc, rfl, hla, hb⟩ := hcut
    have HS' := Lib.hid (HS.out.keep hb)
    clear HS
    have HS := HS'; have HLA := Lib.hid hla
    clear HS' hla hb
    obtain ⟨W29, hW⟩ : ∃ W29 : World, W29 = wc := ⟨_, rfl⟩
    subst hW
    have u0 := HS.out.1.cell 0; have u1 := HS.out.1.cell 1; have u2 := HS.out.1.cell 2; have u3 := HS.out.1.cell 3; simp only [List.getElem?_cons_succ, List.getElem?_cons_zero] at u0 u1 u2 u3
    clear u0 u1 u3
    by_cases h0 : xs.length = 0
    · have hz : ((xs.length : Int) == 0) = true := by rw [h0]; rfl
      have h0' := Lib.hid h0
      clear h0
      go_wp2_with (go_at_call 20; refine (haw _ HS.out.2.2.2.2.1).mono ?_; rintro e v5 ⟨rfl, hb5⟩; have HBV := Lib.hid (HS.out.2.2.2.2.2.trans (hb5.mono HS.out.2.2.2.2.2.size)); clear hb5)
      go_ret
      exact ⟨rfl, HBV.out⟩
    · have hz : ((xs.length : Int) == 0) = false := by rw [beq_eq_false_iff_ne]; omega
      have HAL := Lib.hid (HALI.out (by omega))
      go_upto_region 31 with fail
      clear u2
      go_cut [30, 31, 32] from 317 to 328 (fun s30 s31 s32 wx => ∃ g : Nat, s30 = .int .i64 by' ∧ s31 = .pointer (some ⟨g, 0, none⟩) ∧ s32 = .int .i64 0 ∧ Row wx g 103 [.int .i64 0, .int .i64 1] ∧ Below W29.heap.size W29 wx)
      case first => as_aux_lemma =>
       refine wp_region_held_drew (S := fun V => Below W29.heap.size W29 V) (by kernel_rfl) ?_ (fun hHeld => ?_)
       · exact (Below.refl _ _).drew
       refine TD (i := 0) (oi := ⟨some 318, _, _, _, _, _⟩) (v := ?_) rfl (by kernel_rfl) (by kernel_rfl) (by kernel_rfl) (fun _ _ _ h => h) (Or.inl ⟨by kernel_rfl, ?_⟩) hHeld ?_
       rotate_left
       · intro w1 hSw; (try dsimp only at hSw); go_simp <;> with_reducible rfl
       try simp only [Act.put, TA, TB, TC]
       refine TD (i := 1) (oi := ⟨some 319, _, _, _, _, _⟩) (v := ?_) rfl (by kernel_rfl) (by kernel_rfl) (by kernel_rfl) (fun _ _ _ h => h) (Or.inl ⟨by kernel_rfl, ?_⟩) hHeld ?_
       rotate_left
       · intro w1 hSw; (try dsimp only at hSw); have cc2 := (HS.out.keep hSw).1.cell 2; simp only [List.getElem?_cons_succ, List.getElem?_cons_zero] at cc2; go_simp <;> with_reducible rfl
       try simp only [Act.put, TA, TB, TC]
       refine TD (i := 3) (oi := ⟨some 321, _, _, _, _, _⟩) (v := ?_) rfl (by kernel_rfl) (by kernel_rfl) (by kernel_rfl) (fun _ _ _ h => h) (Or.inl ⟨by kernel_rfl, ?_⟩) hHeld ?_
       rotate_left
       · intro w1 hSw; (try dsimp only at hSw); go_simp <;> with_reducible rfl
       try simp only [Act.put, TA, TB, TC]
       refine TD (i := 4) (oi := ⟨some 322, _, _, _, _, _⟩) (v := ?_) rfl (by kernel_rfl) (by kernel_rfl) (by kernel_rfl) (fun _ _ _ h => h) (Or.inl ⟨by kernel_rfl, ?_⟩) hHeld ?_
       rotate_left
       · intro w1 hSw; (try dsimp only at hSw); go_simp <;> with_reducible rfl
       try simp only [Act.put, TA, TB, TC]
       refine TD (i := 5) (oi := ⟨some 323, _, _, _, _, _⟩) (v := ?_) rfl (by kernel_rfl) (by kernel_rfl) (by kernel_rfl) (fun _ _ _ h => h) (Or.inl ⟨by kernel_rfl, ?_⟩) hHeld ?_
       rotate_left
       · intro w1 hSw; (try dsimp only at hSw); have cc2 := (HS.out.keep hSw).1.cell 2; simp only [List.getElem?_cons_succ, List.getElem?_cons_zero] at cc2; go_simp <;> with_reducible rfl
       try simp only [Act.put, TA, TB, TC]
       refine TD (i := 6) (oi := ⟨some 324, _, _, _, _, _⟩) (v := ?_) rfl (by kernel_rfl) (by kernel_rfl) (by kernel_rfl) (fun _ _ _ h => h) (Or.inl ⟨by kernel_rfl, ?_⟩) hHeld ?_
       rotate_left
       · intro w1 hSw; (try dsimp only at hSw); go_simp <;> with_reducible rfl
       try simp only [Act.put, TA, TB, TC]
       refine TG (rs := [2, 12]) (by kernel_rfl) (by simp) ?_
       refine TE rfl (fun K hK => ?_) (TE rfl (fun K hK => ?_) (TF))
       ·
        go_simp
        go_at_call 15
        refine (HFL.out _ (HS.out.keep hHeld).2.2.1).mono ?_
        rintro e v2 ⟨GA, gc, rfl, hga, hb2⟩
        have zv2 := (hHeld.trans (hb2.mono hHeld.size)).size
        try go_simp
        refine hK.out _ _ ?_ (fun hHeld => ?_)
        · exact hHeld.trans (hb2.mono hHeld.size)
        clear hK K
        try simp only [Act.put, TA, TB, TC]
        refine TG (rs := [7, 12]) (by kernel_rfl) (by simp) ?_
        refine TE rfl (fun K hK => ?_) (TE rfl (fun K hK => ?_) (TF))
        ·
         go_simp
         go_at_call 35
         refine (HAL.out _ _ _ _ _ (hga) (HLA.out.below hHeld)).mono ?_
         rintro e v7 ⟨rfl, hb7⟩
         have zv7 := (hHeld.trans (hb7.mono hHeld.size)).size
         try go_simp
         refine hK.out _ _ ?_ (fun hHeld => ?_)
         · exact hHeld.trans (hb7.mono hHeld.size)
         clear hK K
         try simp only [Act.put, TA, TB, TC]
         refine TD (i := 8) (oi := ⟨some 317, _, _, _, _, _⟩) (v := ?_) rfl (by kernel_rfl) (by kernel_rfl) (by kernel_rfl) (fun _ _ _ h => h) (Or.inl ⟨by kernel_rfl, ?_⟩) hHeld ?_
         rotate_left
         · intro w1 hSw; (try dsimp only at hSw); go_simp <;> with_reducible rfl
         try simp only [Act.put, TA, TB, TC]
         refine TD (i := 9) (oi := ⟨some 326, _, _, _, _, _⟩) (v := ?_) rfl (by kernel_rfl) (by kernel_rfl) (by kernel_rfl) (fun _ _ _ h => h) (Or.inl ⟨by kernel_rfl, ?_⟩) hHeld ?_
         rotate_left
         · intro w1 hSw; (try dsimp only at hSw); go_simp <;> with_reducible rfl
         try simp only [Act.put, TA, TB, TC]
         refine TD (i := 10) (oi := ⟨some 327, _, _, _, _, _⟩) (v := ?_) rfl (by kernel_rfl) (by kernel_rfl) (by kernel_rfl) (fun _ _ _ h => h) (Or.inl ⟨by kernel_rfl, ?_⟩) hHeld ?_
         rotate_left
         · intro w1 hSw; (try dsimp only at hSw); go_simp <;> with_reducible rfl
         try simp only [Act.put, TA, TB, TC]
         refine TD (i := 11) (oi := ⟨some 328, _, _, _, _, _⟩) (v := ?_) rfl (by kernel_rfl) (by kernel_rfl) (by kernel_rfl) (fun _ _ _ h => h) (Or.inl ⟨by kernel_rfl, ?_⟩) hHeld ?_
         rotate_left
         · intro w1 hSw; (try dsimp only at hSw); go_simp <;> with_reducible rfl
         try simp only [Act.put, TA, TB, TC]
         refine TG (rs := [12]) (by kernel_rfl) (by simp) ?_
         refine TE rfl (fun K hK => ?_) (TF)
         go_simp
         refine hK.out _ _ ?_ (fun hHeld => ?_)
         · exact hHeld.alloc hHeld.size _
         clear hK K
         try simp only [Act.put, TA, TB, TC]
         refine TD (i := 13) (oi := ⟨some 30, _, _, _, _, _⟩) (v := ?_) rfl (by kernel_rfl) (by kernel_rfl) (by kernel_rfl) (fun _ _ _ h => h) (Or.inl ⟨by kernel_rfl, ?_⟩) hHeld ?_
         rotate_left
         · intro w1 hSw; (try dsimp only at hSw); go_simp <;> with_reducible rfl
         try simp only [Act.put, TA, TB, TC]
         refine TG (rs := [14]) (by kernel_rfl) (by simp) ?_
         refine TE rfl (fun K hK => ?_) (TF)
         have hz := Row.new v7 103 [.int .i64 0, .int .i64 0]
         have hg : W29.heap.size ≤ v7.heap.size := zv7
         refine step_store_row rfl 103 _ _ rfl v7.heap.size [.int .i64 0, .int .i64 1] rfl rfl 103 [.int .i64 0, .int .i64 0] hz (by kernel_rfl) rfl (by simp [Value.oneCell']) ?_
         refine hK.out _ _ ?_ (fun hHeld => ?_)
         · exact Below.setRow hHeld hg _
         clear hK K
         try simp only [Act.put, TA, TB, TC]
         refine TD (i := 15) (oi := ⟨some 32, _, _, _, _, _⟩) (v := ?_) rfl (by kernel_rfl) (by kernel_rfl) (by kernel_rfl) (fun _ _ _ h => h) (Or.inl ⟨by kernel_rfl, ?_⟩) hHeld ?_
         rotate_left
         · intro w1 hSw; (try dsimp only at hSw); go_simp <;> with_reducible rfl
         try simp only [Act.put, TA, TB, TC]
         refine wpAnyH_done (by kernel_rfl) ?_ _
         go_wp2_with fail
         go_meet
         exact ⟨_, rfl, rfl, rfl, hz.setRow _, hHeld⟩
        ·
         go_simp
         refine hK.out _ _ ?_ (fun hHeld => ?_)
         · exact hHeld.alloc hHeld.size _
         clear hK K
         try simp only [Act.put, TA, TB, TC]
         refine TG (rs := [7]) (by kernel_rfl) (by simp) ?_
         refine TE rfl (fun K hK => ?_) (TF)
         go_simp
         go_at_call 35
         refine (HAL.out _ _ _ _ _ ((hga).below ((Below.refl _ _).alloc (Nat.le_refl _) _)) (HLA.out.below hHeld)).mono ?_
         rintro e v7 ⟨rfl, hb7⟩
         have zv7 := (hHeld.trans (hb7.mono hHeld.size)).size
         try go_simp
         refine hK.out _ _ ?_ (fun hHeld => ?_)
         · exact hHeld.trans (hb7.mono hHeld.size)
         clear hK K
         try simp only [Act.put, TA, TB, TC]
         refine TD (i := 8) (oi := ⟨some 317, _, _, _, _, _⟩) (v := ?_) rfl (by kernel_rfl) (by kernel_rfl) (by kernel_rfl) (fun _ _ _ h => h) (Or.inl ⟨by kernel_rfl, ?_⟩) hHeld ?_
         rotate_left
         · intro w1 hSw; (try dsimp only at hSw); go_simp <;> with_reducible rfl
         try simp only [Act.put, TA, TB, TC]
         refine TD (i := 9) (oi := ⟨some 326, _, _, _, _, _⟩) (v := ?_) rfl (by kernel_rfl) (by kernel_rfl) (by kernel_rfl) (fun _ _ _ h => h) (Or.inl ⟨by kernel_rfl, ?_⟩) hHeld ?_
         rotate_left
         · intro w1 hSw; (try dsimp only at hSw); go_simp <;> with_reducible rfl
         try simp only [Act.put, TA, TB, TC]
         refine TD (i := 10) (oi := ⟨some 327, _, _, _, _, _⟩) (v := ?_) rfl (by kernel_rfl) (by kernel_rfl) (by kernel_rfl) (fun _ _ _ h => h) (Or.inl ⟨by kernel_rfl, ?_⟩) hHeld ?_
         rotate_left
         · intro w1 hSw; (try dsimp only at hSw); go_simp <;> with_reducible rfl
         try simp only [Act.put, TA, TB, TC]
         refine TD (i := 11) (oi := ⟨some 328, _, _, _, _, _⟩) (v := ?_) rfl (by kernel_rfl) (by kernel_rfl) (by kernel_rfl) (fun _ _ _ h => h) (Or.inl ⟨by kernel_rfl, ?_⟩) hHeld ?_
         rotate_left
         · intro w1 hSw; (try dsimp only at hSw); go_simp <;> with_reducible rfl
         try simp only [Act.put, TA, TB, TC]
         refine TD (i := 13) (oi := ⟨some 30, _, _, _, _, _⟩) (v := ?_) rfl (by kernel_rfl) (by kernel_rfl) (by kernel_rfl) (fun _ _ _ h => h) (Or.inl ⟨by kernel_rfl, ?_⟩) hHeld ?_
         rotate_left
         · intro w1 hSw; (try dsimp only at hSw); go_simp <;> with_reducible rfl
         try simp only [Act.put, TA, TB, TC]
         refine TG (rs := [14]) (by kernel_rfl) (by simp) ?_
         refine TE rfl (fun K hK => ?_) (TF)
         have hz := (Row.new v2 103 [.int .i64 0, .int .i64 0]).old hb7
         have hg : W29.heap.size ≤ v2.heap.size := zv2
         refine step_store_row rfl 103 _ _ rfl v2.heap.size [.int .i64 0, .int .i64 1] rfl rfl 103 [.int .i64 0, .int .i64 0] hz (by kernel_rfl) rfl (by simp [Value.oneCell']) ?_
         refine hK.out _ _ ?_ (fun hHeld => ?_)
         · exact Below.setRow hHeld hg _
         clear hK K
         try simp only [Act.put, TA, TB, TC]
         refine TD (i := 15) (oi := ⟨some 32, _, _, _, _, _⟩) (v := ?_) rfl (by kernel_rfl) (by kernel_rfl) (by kernel_rfl) (fun _ _ _ h => h) (Or.inl ⟨by kernel_rfl, ?_⟩) hHeld ?_
         rotate_left
         · intro w1 hSw; (try dsimp only at hSw); go_simp <;> with_reducible rfl
         try simp only [Act.put, TA, TB, TC]
         refine wpAnyH_done (by kernel_rfl) ?_ _
         go_wp2_with fail
         go_meet
         exact ⟨_, rfl, rfl, rfl, hz.setRow _, hHeld⟩
       ·
        go_simp
        refine hK.out _ _ ?_ (fun hHeld => ?_)
        · exact hHeld.alloc hHeld.size _
        clear hK K
        try simp only [Act.put, TA, TB, TC]
        refine TG (rs := [2]) (by kernel_rfl) (by simp) ?_
        refine TE rfl (fun K hK => ?_) (TF)
        go_simp
        go_at_call 15
        refine (HFL.out _ (HS.out.keep hHeld).2.2.1).mono ?_
        rintro e v2 ⟨GA, gc, rfl, hga, hb2⟩
        have zv2 := (hHeld.trans (hb2.mono hHeld.size)).size
        try go_simp
        refine hK.out _ _ ?_ (fun hHeld => ?_)
        · exact hHeld.trans (hb2.mono hHeld.size)
        clear hK K
        try simp only [Act.put, TA, TB, TC]
        refine TG (rs := [7]) (by kernel_rfl) (by simp) ?_
        refine TE rfl (fun K hK => ?_) (TF)
        go_simp
        go_at_call 35
        refine (HAL.out _ _ _ _ _ (hga) (HLA.out.below hHeld)).mono ?_
        rintro e v7 ⟨rfl, hb7⟩
        have zv7 := (hHeld.trans (hb7.mono hHeld.size)).size
        try go_simp
        refine hK.out _ _ ?_ (fun hHeld => ?_)
        · exact hHeld.trans (hb7.mono hHeld.size)
        clear hK K
        try simp only [Act.put, TA, TB, TC]
        refine TD (i := 8) (oi := ⟨some 317, _, _, _, _, _⟩) (v := ?_) rfl (by kernel_rfl) (by kernel_rfl) (by kernel_rfl) (fun _ _ _ h => h) (Or.inl ⟨by kernel_rfl, ?_⟩) hHeld ?_
        rotate_left
        · intro w1 hSw; (try dsimp only at hSw); go_simp <;> with_reducible rfl
        try simp only [Act.put, TA, TB, TC]
        refine TD (i := 9) (oi := ⟨some 326, _, _, _, _, _⟩) (v := ?_) rfl (by kernel_rfl) (by kernel_rfl) (by kernel_rfl) (fun _ _ _ h => h) (Or.inl ⟨by kernel_rfl, ?_⟩) hHeld ?_
        rotate_left
        · intro w1 hSw; (try dsimp only at hSw); go_simp <;> with_reducible rfl
        try simp only [Act.put, TA, TB, TC]
        refine TD (i := 10) (oi := ⟨some 327, _, _, _, _, _⟩) (v := ?_) rfl (by kernel_rfl) (by kernel_rfl) (by kernel_rfl) (fun _ _ _ h => h) (Or.inl ⟨by kernel_rfl, ?_⟩) hHeld ?_
        rotate_left
        · intro w1 hSw; (try dsimp only at hSw); go_simp <;> with_reducible rfl
        try simp only [Act.put, TA, TB, TC]
        refine TD (i := 11) (oi := ⟨some 328, _, _, _, _, _⟩) (v := ?_) rfl (by kernel_rfl) (by kernel_rfl) (by kernel_rfl) (fun _ _ _ h => h) (Or.inl ⟨by kernel_rfl, ?_⟩) hHeld ?_
        rotate_left
        · intro w1 hSw; (try dsimp only at hSw); go_simp <;> with_reducible rfl
        try simp only [Act.put, TA, TB, TC]
        refine TD (i := 13) (oi := ⟨some 30, _, _, _, _, _⟩) (v := ?_) rfl (by kernel_rfl) (by kernel_rfl) (by kernel_rfl) (fun _ _ _ h => h) (Or.inl ⟨by kernel_rfl, ?_⟩) hHeld ?_
        rotate_left
        · intro w1 hSw; (try dsimp only at hSw); go_simp <;> with_reducible rfl
        try simp only [Act.put, TA, TB, TC]
        refine TG (rs := [14]) (by kernel_rfl) (by simp) ?_
        refine TE rfl (fun K hK => ?_) (TF)
        have hz := ((Row.new W29.drew 103 [.int .i64 0, .int .i64 0]).old hb2).old hb7
        have hg : W29.heap.size ≤ W29.heap.size := Nat.le_refl _
        refine step_store_row rfl 103 _ _ rfl W29.heap.size [.int .i64 0, .int .i64 1] rfl rfl 103 [.int .i64 0, .int .i64 0] hz (by kernel_rfl) rfl (by simp [Value.oneCell']) ?_
        refine hK.out _ _ ?_ (fun hHeld => ?_)
        · exact Below.setRow hHeld hg _
        clear hK K
        try simp only [Act.put, TA, TB, TC]
        refine TD (i := 15) (oi := ⟨some 32, _, _, _, _, _⟩) (v := ?_) rfl (by kernel_rfl) (by kernel_rfl) (by kernel_rfl) (fun _ _ _ h => h) (Or.inl ⟨by kernel_rfl, ?_⟩) hHeld ?_
        rotate_left
        · intro w1 hSw; (try dsimp only at hSw); go_simp <;> with_reducible rfl
        try simp only [Act.put, TA, TB, TC]
        refine wpAnyH_done (by kernel_rfl) ?_ _
        go_wp2_with fail
        go_meet
        exact ⟨_, rfl, rfl, rfl, hz.setRow _, hHeld⟩
      case rest =>
      obtain ⟨g5, rfl, rfl, rfl, r5, hb⟩ := hcut
      have HS' := Lib.hid (HS.out.keep hb); have H5 := Lib.hid r5
      clear HS r5 hb
      have HS := HS'
      clear HS'
      obtain ⟨W31, hW⟩ : ∃ W31 : World, W31 = wc := ⟨_, rfl⟩
      subst hW
      have k0 := H5.out.cell 0; have k1 := H5.out.cell 1
      simp only [List.getElem?_cons_succ, List.getElem?_cons_zero] at k0 k1
      have e1 : decide (by' ≤ (sh : Int)) = true := decide_eq_true hby.2
      have e2 : decide (0 ≤ by') = true := decide_eq_true hby.1
      go_wp2_with (go_at_call 20; refine (haw _ HS.out.2.2.2.2.1).mono ?_; rintro e v5 ⟨rfl, hb5⟩; have HBV := Lib.hid (HS.out.2.2.2.2.2.trans (hb5.mono HS.out.2.2.2.2.2.size)); clear hb5)
      go_ret
      exact ⟨rfl, HBV.out⟩
end Go.Proofs.YtkfkmnfejeocpaaGreatDoor
