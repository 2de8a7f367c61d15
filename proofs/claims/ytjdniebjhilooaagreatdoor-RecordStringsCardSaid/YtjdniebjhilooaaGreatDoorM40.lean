import Derived.Test.YtjdniebjhilooaaGreatDoorM39
import Derived.Deep.WholeRow
namespace Go.Proofs.YtjdniebjhilooaaGreatDoor
set_option linter.all false
open Go.RowKit Go.Fl
set_option maxRecDepth 100000 in
set_option maxHeartbeats 16000000 in
theorem awake_ok : AwakeOk := by
 intro w h
 have HA := Lib.hid h
 have HB := Lib.hid (Below.refl w.heap.size w)
 clear h
 go_enter Tryz.func8, Tryz.ntmps8
 go_wp2_with fail
 have hal := Below.refl w.heap.size w
 refine (a1 w).mono ?_
 rintro e w1 ⟨ga, rfl, h1, hb⟩
 have hbb := hal.trans (hb.mono hal.size)
 replace HA := Lib.hid (HA.out.old hbb)
 replace HB := Lib.hid (HB.out.trans (hbb.mono HB.out.size))
 have RA := Lib.hid (h1)
 clear hal hb hbb
 go_wp2_with fail
 have hal := Below.refl w1.heap.size w1
 refine (a2 w1 (HA.out.old hal)).mono ?_
 rintro e w2 ⟨r0, i0, r1, i1, r2, i2, r3, i3, rfl, hp, hb⟩
 have hbb := hal.trans (hb.mono hal.size)
 replace HA := Lib.hid (HA.out.old hbb)
 replace HB := Lib.hid (HB.out.trans (hbb.mono HB.out.size))
 replace RA := Lib.hid (RA.out.old hbb)
 have HP := Lib.hid hp
 clear hp
 clear hal hb hbb
 go_wp2_with fail
 have hal : Below w2.heap.size w2 (w2.alloc (.cells #[.complex .f32 r0 i0, .complex .f32 r1 i1, .complex .f32 r2 i2, .complex .f32 r3 i3] 96)) := ((Below.refl _ _).alloc (Nat.le_refl _) _)
 refine (a3 r0 i0 r1 i1 r2 i2 r3 i3 (w2.alloc (.cells #[.complex .f32 r0 i0, .complex .f32 r1 i1, .complex .f32 r2 i2, .complex .f32 r3 i3] 96)) (HA.out.old hal) HP.out).mono ?_
 rintro e w3 ⟨y0, y1, y2, y3, rfl, hy, hb⟩
 have hbb := hal.trans (hb.mono hal.size)
 replace HA := Lib.hid (HA.out.old hbb)
 replace HB := Lib.hid (HB.out.trans (hbb.mono HB.out.size))
 replace RA := Lib.hid (RA.out.old hbb)
 have RB := Lib.hid (((Row.new w2 96 [.complex .f32 r0 i0, .complex .f32 r1 i1, .complex .f32 r2 i2, .complex .f32 r3 i3]).old hb))
 have HY := Lib.hid hy
 clear hy
 clear hal hb hbb
 go_wp2_with fail
 have hal : Below w3.heap.size w3 ((w3.alloc (.cells #[.float .f32 y0, .float .f32 y1, .float .f32 y2, .float .f32 y3] 99)).alloc (.cells #[.int .u8 5, .int .u8 1] 5)) := (((Below.refl _ _).alloc (Nat.le_refl _) _).alloc (by simp) _)
 refine (a4 (w3.heap.size + 1) ((w3.alloc (.cells #[.float .f32 y0, .float .f32 y1, .float .f32 y2, .float .f32 y3] 99)).alloc (.cells #[.int .u8 5, .int .u8 1] 5)) (by have h := Row.new (w3.alloc (.cells #[.float .f32 y0, .float .f32 y1, .float .f32 y2, .float .f32 y3] 99)) 5 [.int .u8 5, .int .u8 1]; rw [World.size_alloc] at h; exact h)).mono ?_
 rintro e w4 ⟨rfl, hb⟩
 have hbb := hal.trans (hb.mono hal.size)
 replace HA := Lib.hid (HA.out.old hbb)
 replace HB := Lib.hid (HB.out.trans (hbb.mono HB.out.size))
 replace RA := Lib.hid (RA.out.old hbb)
 replace RB := Lib.hid (RB.out.old hbb)
 have RC := Lib.hid ((((Row.new w3 99 [.float .f32 y0, .float .f32 y1, .float .f32 y2, .float .f32 y3]).alloc _).old hb))
 clear hal hb hbb
 go_wp2_with fail
 have hal : Below w4.heap.size w4 (w4.alloc (.cells #[.int .u8 76, .int .u8 230, .int .u8 188, .int .u8 206, .int .u8 28, .int .u8 166, .int .u8 108, .int .u8 110] 46)) := ((Below.refl _ _).alloc (Nat.le_refl _) _)
 refine (a5 (w4.alloc (.cells #[.int .u8 76, .int .u8 230, .int .u8 188, .int .u8 206, .int .u8 28, .int .u8 166, .int .u8 108, .int .u8 110] 46))).mono ?_
 rintro e w5 ⟨fs, rfl, Hfs, hb⟩
 have hbb := hal.trans (hb.mono hal.size)
 replace HA := Lib.hid (HA.out.old hbb)
 replace HB := Lib.hid (HB.out.trans (hbb.mono HB.out.size))
 replace RA := Lib.hid (RA.out.old hbb)
 replace RB := Lib.hid (RB.out.old hbb)
 replace RC := Lib.hid (RC.out.old hbb)
 have RD := Lib.hid (((Row.new w4 46 [.int .u8 76, .int .u8 230, .int .u8 188, .int .u8 206, .int .u8 28, .int .u8 166, .int .u8 108, .int .u8 110]).old hb))
 clear hal hb hbb
 have hst : (storeCells ⟨w5.heap.size, 0, none⟩ fs).run Tryz.prog (w5.alloc (.cells #[.int .u8 0, .int .u8 0, .int .u8 0, .int .u8 0, .int .u8 0, .int .u8 0, .int .u8 0, .int .u8 0, .int .u8 0, .int .u8 0, .int .u8 0, .int .u8 0, .int .u8 0, .int .u8 0, .int .u8 0, .int .u8 0, .int .u8 0, .int .u8 0, .int .u8 0, .int .u8 0, .int .u8 0, .int .u8 0, .int .u8 0, .int .u8 0, .int .u8 0, .int .u8 0, .int .u8 0, .int .u8 0, .int .u8 0] 53)) = .ok () (w5.alloc (.cells fs.toArray 53)) := run_storeCells_new w5 53 #[.int .u8 0, .int .u8 0, .int .u8 0, .int .u8 0, .int .u8 0, .int .u8 0, .int .u8 0, .int .u8 0, .int .u8 0, .int .u8 0, .int .u8 0, .int .u8 0, .int .u8 0, .int .u8 0, .int .u8 0, .int .u8 0, .int .u8 0, .int .u8 0, .int .u8 0, .int .u8 0, .int .u8 0, .int .u8 0, .int .u8 0, .int .u8 0, .int .u8 0, .int .u8 0, .int .u8 0, .int .u8 0, .int .u8 0] fs.toArray (by rw [Hfs.out]; kernel_rfl) (by rw [Hfs.out]; rfl) (by rw [Hfs.out]; kernel_rfl)
 have hfl : fs.length = 29 := by rw [Hfs.out]; rfl
 go_upto_region 6 with fail
 refine genP (a1 := fun W => Row W w5.heap.size 53 fs) (a2 := fun W => Below w5.heap.size w5 W) (a3 := fun W => W.heap.size = w5.heap.size + 1) (a4 := fun _ => True) (w5.alloc (.cells fs.toArray 53)) (Row.new w5 53 fs) ((Below.refl _ _).alloc (Nat.le_refl _) _) (by simp) trivial ?_
 intro W6 hrf hb hsz _
 have hbb := hb
 replace HA := Lib.hid (HA.out.old hbb)
 replace HB := Lib.hid (HB.out.trans (hbb.mono HB.out.size))
 replace RA := Lib.hid (RA.out.old hbb)
 replace RB := Lib.hid (RB.out.old hbb)
 replace RC := Lib.hid (RC.out.old hbb)
 replace RD := Lib.hid (RD.out.old hbb)
 have RF := Lib.hid hrf
 have hsf : w5.heap.size < W6.heap.size := by omega
 clear hb hbb hrf hsz hst
 have hal6 : Below W6.heap.size W6 (W6.alloc (.cells #[.int .u8 1, .int .u8 7] 5)) := (Below.refl _ _).alloc (Nat.le_refl _) _
 have ho6 := row_owns (Row.new W6 5 [.int .u8 1, .int .u8 7]) 1 2 W6.heap.size rfl (by unfold maxLen; decide) (Nat.le_refl _)
 go_wp2_with (at_builtin; refine wpList_app rfl _ _ 48 rfl W6.heap.size 5 (.int .u8 0) 1 1 Tryz.underlying48 info5 rfl (by decide) _ 2 [.int .u8 1, .int .u8 7] rfl ho6 (some ⟨w5.heap.size, 0, none⟩) 29 29 fs rfl (by intro h; cases h) (Rd.row (RF.out.old hal6)) hfl ?c1 ?c2 ?c3 ?c4 ?_)
 case c1 => rw [Hfs.out]; simp [u8s, Value.oneCell']
 case c2 => unfold maxLen; decide
 case c3 => decide
 case c4 => simp
 intro v7 W7 ho7 hg7
 obtain ⟨g7, c7, rfl, -, -⟩ := ownsRow.addr ho7 (by decide)
 have hc7 := ownsRow.cap ho7
 have hb : Below W6.heap.size W6 W7 := hal6.grown hg7 (by simp) (fun k hk => (ho6.lt k hk).1)
 have RI : Hid (Rd W7 (some ⟨g7, 0, none⟩) (byts inB)) := by have := owned_rd ho7; rw [Hfs.out] at this; rw [← app_inB]; exact this
 have hbb := hb
 replace HA := Lib.hid (HA.out.old hbb)
 replace HB := Lib.hid (HB.out.trans (hbb.mono HB.out.size))
 replace RA := Lib.hid (RA.out.old hbb)
 replace RB := Lib.hid (RB.out.old hbb)
 replace RC := Lib.hid (RC.out.old hbb)
 replace RD := Lib.hid (RD.out.old hbb)
 replace RF := Lib.hid (RF.out.old hbb)
 clear hb hbb ho7 hg7 ho6 hal6
 go_wp2_with fail
 refine (a6 (some ⟨g7, 0, none⟩) c7 W7 RI.out (by omega)).mono ?_
 rintro e w8 ⟨g8, c8, g9, c9, rfl, k8, k9, hb⟩
 have hbb := hb
 replace HA := Lib.hid (HA.out.old hbb)
 replace HB := Lib.hid (HB.out.trans (hbb.mono HB.out.size))
 replace RA := Lib.hid (RA.out.old hbb)
 replace RB := Lib.hid (RB.out.old hbb)
 replace RC := Lib.hid (RC.out.old hbb)
 replace RD := Lib.hid (RD.out.old hbb)
 replace RF := Lib.hid (RF.out.old hbb)
 have RG := Lib.hid k8
 have RK := Lib.hid k9
 clear hb hbb k8 k9 RI hc7
 go_wp2_with fail
 have hal : Below w8.heap.size w8 (w8.alloc (.cells #[.int .i64 3, .int .i64 1, .int .i64 2, .float .f32 1065353216, .float .f32 1073741824, .float .f32 0, .float .f32 0, .float .f32 0, .float .f32 0, .float .f32 0, .float .f32 0] 59)) := (Below.refl _ _).alloc (Nat.le_refl _) _
 refine (a7 (some ⟨w8.heap.size, 0, none⟩) 1 _ (Rd.row (Row.new w8 59 (pkV pk2)))).mono ?_
 rintro e w9 ⟨g10, g11, c11, rfl, k10, k11, hb⟩
 have hbb := hal.trans (hb.mono hal.size)
 replace HA := Lib.hid (HA.out.old hbb)
 replace HB := Lib.hid (HB.out.trans (hbb.mono HB.out.size))
 replace RA := Lib.hid (RA.out.old hbb)
 replace RB := Lib.hid (RB.out.old hbb)
 replace RC := Lib.hid (RC.out.old hbb)
 replace RD := Lib.hid (RD.out.old hbb)
 replace RF := Lib.hid (RF.out.old hbb)
 replace RG := Lib.hid (RG.out.below hbb)
 replace RK := Lib.hid (RK.out.below hbb)
 have RH := Lib.hid k10
 have RM := Lib.hid k11
 clear hb hbb hal k10 k11
 go_wp2_with fail
 have hal : Below w9.heap.size w9 (w9.alloc (.cells #[.int .i64 1, .int .i64 0, .int .i64 2] 3)) := ((Below.refl _ _).alloc (Nat.le_refl _) _)
 refine (s20 (some ⟨ga, 0, none⟩) (some ⟨w9.heap.size, 0, none⟩) 3 3 [1, 0, 2] (w9.alloc (.cells #[.int .i64 1, .int .i64 0, .int .i64 2] 3)) (Rd.row (RA.out.old hal)) (Rd.row (Row.new w9 3 (ints [1, 0, 2]))) (by decide)).mono ?_
 rintro e w10 ⟨rfl, hb⟩
 have hbb := hal.trans (hb.mono hal.size)
 replace HA := Lib.hid (HA.out.old hbb)
 replace HB := Lib.hid (HB.out.trans (hbb.mono HB.out.size))
 replace RA := Lib.hid (RA.out.old hbb)
 replace RB := Lib.hid (RB.out.old hbb)
 replace RC := Lib.hid (RC.out.old hbb)
 replace RD := Lib.hid (RD.out.old hbb)
 replace RF := Lib.hid (RF.out.old hbb)
 replace RG := Lib.hid (RG.out.below hbb)
 replace RK := Lib.hid (RK.out.below hbb)
 replace RH := Lib.hid (RH.out.below hbb)
 replace RM := Lib.hid (RM.out.below hbb)
 clear hal hb hbb
 have qb0 := RB.out.cell 0
 have qb1 := RB.out.cell 1
 have qb2 := RB.out.cell 2
 have qb3 := RB.out.cell 3
 simp only [List.getElem?_cons_succ, List.getElem?_cons_zero] at qb0 qb1 qb2 qb3
 have qc0 := RC.out.cell 0
 have qc1 := RC.out.cell 1
 have qc2 := RC.out.cell 2
 have qc3 := RC.out.cell 3
 simp only [List.getElem?_cons_succ, List.getElem?_cons_zero] at qc0 qc1 qc2 qc3
 have qd0 := RD.out.cell 0
 have qd1 := RD.out.cell 1
 have qd2 := RD.out.cell 2
 have qd3 := RD.out.cell 3
 have qd4 := RD.out.cell 4
 have qd5 := RD.out.cell 5
 have qd6 := RD.out.cell 6
 have qd7 := RD.out.cell 7
 simp only [List.getElem?_cons_succ, List.getElem?_cons_zero] at qd0 qd1 qd2 qd3 qd4 qd5 qd6 qd7
 have qf0 : w10.cell? ⟨w5.heap.size, 0, none⟩ = some (.int .u8 201) := by rw [RF.out.cell, Hfs.out]; rfl
 have qf1 : w10.cell? ⟨w5.heap.size, 1, none⟩ = some (.int .u8 3) := by rw [RF.out.cell, Hfs.out]; rfl
 have qf2 : w10.cell? ⟨w5.heap.size, 2, none⟩ = some (.int .u8 1) := by rw [RF.out.cell, Hfs.out]; rfl
 have qf3 : w10.cell? ⟨w5.heap.size, 3, none⟩ = some (.int .u8 2) := by rw [RF.out.cell, Hfs.out]; rfl
 have qf4 : w10.cell? ⟨w5.heap.size, 4, none⟩ = some (.int .u8 2) := by rw [RF.out.cell, Hfs.out]; rfl
 have qf5 : w10.cell? ⟨w5.heap.size, 5, none⟩ = some (.int .u8 0) := by rw [RF.out.cell, Hfs.out]; rfl
 have qf6 : w10.cell? ⟨w5.heap.size, 6, none⟩ = some (.int .u8 16) := by rw [RF.out.cell, Hfs.out]; rfl
 have qf7 : w10.cell? ⟨w5.heap.size, 7, none⟩ = some (.int .u8 255) := by rw [RF.out.cell, Hfs.out]; rfl
 have qf8 : w10.cell? ⟨w5.heap.size, 8, none⟩ = some (.int .u8 248) := by rw [RF.out.cell, Hfs.out]; rfl
 have qf9 : w10.cell? ⟨w5.heap.size, 9, none⟩ = some (.int .u8 0) := by rw [RF.out.cell, Hfs.out]; rfl
 have qg : w10.cell? ⟨g8, 1, none⟩ = some (.int .i64 258) := by obtain ⟨b, o, h1, h2⟩ := RG.out 1 _ rfl; cases h1; simpa using h2
 have hnB := fun W => neqB HP.out W
 have hnF := fun W => neqF4 HY.out W
 have hnK := neqK
 have hnT := neqT
 have hAt : ∀ W, (Instr.arrayAt 103 (.slice (some ⟨w5.heap.size, 0, none⟩) 10 29)).run Tryz.prog W = .ok (.pointer (some ⟨w5.heap.size, 0, none⟩)) W := fun W => by simp [Instr.arrayAt, run_underlying Tryz.underlying103]
 go_wp2_with (go_at_call 36; refine (to_any 0 2 _).mono ?_; rintro e wX ⟨rfl, rfl⟩)
 have hal : Below w10.heap.size w10 ((w10.alloc (.cells #[.int .i64 0, .int .i64 2] 70)).alloc (.cells #[.int .i64 0, .int .i64 2] 70)) := (((Below.refl _ _).alloc (Nat.le_refl _) _).alloc (by simp) _)
 refine (s42 (some ⟨g9, 0, none⟩) (some ⟨w10.heap.size + 1, 0, none⟩) c9 1 [(0, 2)] ((w10.alloc (.cells #[.int .i64 0, .int .i64 2] 70)).alloc (.cells #[.int .i64 0, .int .i64 2] 70)) (RK.out.below hal) (by have h := Row.new (w10.alloc (.cells #[.int .i64 0, .int .i64 2] 70)) 70 [.int .i64 0, .int .i64 2]; rw [World.size_alloc] at h; exact Rd.row h) (by decide) (by kernel_rfl)).mono ?_
 rintro e w11 ⟨rfl, hb⟩
 have hbb := hal.trans (hb.mono hal.size)
 replace HA := Lib.hid (HA.out.old hbb)
 replace HB := Lib.hid (HB.out.trans (hbb.mono HB.out.size))
 replace RA := Lib.hid (RA.out.old hbb)
 replace RB := Lib.hid (RB.out.old hbb)
 replace RC := Lib.hid (RC.out.old hbb)
 replace RD := Lib.hid (RD.out.old hbb)
 replace RF := Lib.hid (RF.out.old hbb)
 replace RG := Lib.hid (RG.out.below hbb)
 replace RK := Lib.hid (RK.out.below hbb)
 replace RH := Lib.hid (RH.out.below hbb)
 replace RM := Lib.hid (RM.out.below hbb)
 clear hal hb hbb
 clear qb0 qb1 qb2 qb3 qc0 qc1 qc2 qc3 qd0 qd1 qd2 qd3 qd4 qd5 qd6 qd7 qf0 qf1 qf2 qf3 qf4 qf5 qf6 qf7 qf8 qf9 qg
 go_wp2_with fail
 have hal : Below w11.heap.size w11 (w11.alloc (.cells #[.float .f32 0, .float .f32 0, .float .f32 0, .float .f32 0, .float .f32 0, .float .f32 0, .float .f32 0, .float .f32 0, .float .f32 1065353216, .float .f32 1073741824] 56)) := ((Below.refl _ _).alloc (Nat.le_refl _) _)
 refine (s50 (some ⟨g10, 0, none⟩) (some ⟨w11.heap.size, 0, none⟩) 10 10 10 [0, 0, 0, 0, 0, 0, 0, 0, 1065353216, 1073741824] [0, 0, 0, 0, 0, 0, 0, 0, 1065353216, 1073741824] (w11.alloc (.cells #[.float .f32 0, .float .f32 0, .float .f32 0, .float .f32 0, .float .f32 0, .float .f32 0, .float .f32 0, .float .f32 0, .float .f32 1065353216, .float .f32 1073741824] 56)) (RH.out.below hal) (Rd.row (Row.new w11 56 (flts [0, 0, 0, 0, 0, 0, 0, 0, 1065353216, 1073741824]))) rfl rfl (by decide) (by kernel_rfl)).mono ?_
 rintro e w12 ⟨rfl, hb⟩
 have hbb := hal.trans (hb.mono hal.size)
 replace HA := Lib.hid (HA.out.old hbb)
 replace HB := Lib.hid (HB.out.trans (hbb.mono HB.out.size))
 replace RA := Lib.hid (RA.out.old hbb)
 replace RB := Lib.hid (RB.out.old hbb)
 replace RC := Lib.hid (RC.out.old hbb)
 replace RD := Lib.hid (RD.out.old hbb)
 replace RF := Lib.hid (RF.out.old hbb)
 replace RG := Lib.hid (RG.out.below hbb)
 replace RK := Lib.hid (RK.out.below hbb)
 replace RH := Lib.hid (RH.out.below hbb)
 replace RM := Lib.hid (RM.out.below hbb)
 clear hal hb hbb
 go_wp2_with (go_at_call 36; refine (to_any 0 8 _).mono ?_; rintro e wX ⟨rfl, rfl⟩)
 have hal : Below w12.heap.size w12 ((w12.alloc (.cells #[.int .i64 0, .int .i64 8] 70)).alloc (.cells #[.int .i64 0, .int .i64 8] 70)) := (((Below.refl _ _).alloc (Nat.le_refl _) _).alloc (by simp) _)
 refine (s42 (some ⟨g11, 0, none⟩) (some ⟨w12.heap.size + 1, 0, none⟩) c11 1 [(0, 8)] ((w12.alloc (.cells #[.int .i64 0, .int .i64 8] 70)).alloc (.cells #[.int .i64 0, .int .i64 8] 70)) (RM.out.below hal) (by have h := Row.new (w12.alloc (.cells #[.int .i64 0, .int .i64 8] 70)) 70 [.int .i64 0, .int .i64 8]; rw [World.size_alloc] at h; exact Rd.row h) (by decide) (by kernel_rfl)).mono ?_
 rintro e w13 ⟨rfl, hb⟩
 have hbb := hal.trans (hb.mono hal.size)
 replace HA := Lib.hid (HA.out.old hbb)
 replace HB := Lib.hid (HB.out.trans (hbb.mono HB.out.size))
 replace RA := Lib.hid (RA.out.old hbb)
 replace RB := Lib.hid (RB.out.old hbb)
 replace RC := Lib.hid (RC.out.old hbb)
 replace RD := Lib.hid (RD.out.old hbb)
 replace RF := Lib.hid (RF.out.old hbb)
 replace RG := Lib.hid (RG.out.below hbb)
 replace RK := Lib.hid (RK.out.below hbb)
 replace RH := Lib.hid (RH.out.below hbb)
 replace RM := Lib.hid (RM.out.below hbb)
 clear hal hb hbb
 clear hnB hnF hnK hnT hAt
 clear RA RB RC RD RF RG RK RH RM
 try clear HP
 try clear HY
 try clear Hfs hfl
 go_wp2_with fail
 have hal := Below.refl w13.heap.size w13
 refine (tape_ok w13).mono ?_
 rintro e w21 ⟨ta1, ta2, rfl, j1, j2, -, -, hb⟩
 have hbb := hal.trans (hb.mono hal.size)
 replace HA := Lib.hid (HA.out.old hbb)
 replace HB := Lib.hid (HB.out.trans (hbb.mono HB.out.size))
 have Tta1 := Lib.hid (j1)
 have Tta2 := Lib.hid (j2)
 clear hal hb hbb j1 j2
 go_wp2_with (go_at_call 36; refine (to_any 1 3 _).mono ?_; rintro e wX ⟨rfl, rfl⟩)
 have hal : Below w21.heap.size w21 (w21.alloc (.cells #[.int .i64 1, .int .i64 3] 70)) := ((Below.refl _ _).alloc (Nat.le_refl _) _)
 refine (b_cut ta1 ta2 1 3 110 [1073741824, 1077936128] [((0 : Int), (⟨#[111, 117, 116, 101, 114]⟩ : ByteArray))] (w21.alloc (.cells #[.int .i64 1, .int .i64 3] 70)) (Tta1.out.old hal) (Tta2.out.old hal) (by decide) (by decide) (by kernel_rfl) (by decide) (by kernel_rfl) (by kernel_rfl)).mono ?_
 rintro e w22 ⟨Ig, Ic, Im, rfl, j1, j2, hb⟩
 have hbb := hal.trans (hb.mono hal.size)
 replace HA := Lib.hid (HA.out.old hbb)
 replace HB := Lib.hid (HB.out.trans (hbb.mono HB.out.size))
 replace Tta1 := Lib.hid (Tta1.out.old hbb)
 replace Tta2 := Lib.hid (Tta2.out.old hbb)
 have I1 := Lib.hid (j1)
 have I2 := Lib.hid (j2)
 clear hal hb hbb j1 j2
 go_wp2_with fail
 have hal : Below w22.heap.size w22 (w22.alloc (.cells #[.int .i64 110, .int .i64 10, .slice (some ⟨Ig, 0, none⟩) 2 Ic, .slice (some ⟨Im, 0, none⟩) 1 1] 33)) := ((Below.refl _ _).alloc (Nat.le_refl _) _)
 refine (tape_ok (w22.alloc (.cells #[.int .i64 110, .int .i64 10, .slice (some ⟨Ig, 0, none⟩) 2 Ic, .slice (some ⟨Im, 0, none⟩) 1 1] 33))).mono ?_
 rintro e w23 ⟨tb1, tb2, rfl, j1, j2, -, -, hb⟩
 have hbb := hal.trans (hb.mono hal.size)
 replace HA := Lib.hid (HA.out.old hbb)
 replace HB := Lib.hid (HB.out.trans (hbb.mono HB.out.size))
 replace Tta1 := Lib.hid (Tta1.out.old hbb)
 replace Tta2 := Lib.hid (Tta2.out.old hbb)
 replace I1 := Lib.hid (I1.out.below hbb)
 replace I2 := Lib.hid (I2.out.old hbb)
 have BX1 := Lib.hid ((Row.new w22 33 [.int .i64 110, .int .i64 10, .slice (some ⟨Ig, 0, none⟩) 2 Ic, .slice (some ⟨Im, 0, none⟩) 1 1]).old hb)
 have Ttb1 := Lib.hid (j1)
 have Ttb2 := Lib.hid (j2)
 clear hal hb hbb j1 j2
 go_wp2_with (go_at_call 36; refine (to_any 0 2 _).mono ?_; rintro e wX ⟨rfl, rfl⟩)
 have hal : Below w23.heap.size w23 (w23.alloc (.cells #[.int .i64 0, .int .i64 2] 70)) := ((Below.refl _ _).alloc (Nat.le_refl _) _)
 refine (b_cut tb1 tb2 0 2 100 [1065353216, 1073741824] [((1 : Int), (⟨#[111, 117, 116, 101, 114]⟩ : ByteArray))] (w23.alloc (.cells #[.int .i64 0, .int .i64 2] 70)) (Ttb1.out.old hal) (Ttb2.out.old hal) (by decide) (by decide) (by kernel_rfl) (by decide) (by kernel_rfl) (by kernel_rfl)).mono ?_
 rintro e w24 ⟨Jg, Jc, Jm, rfl, j1, j2, hb⟩
 have hbb := hal.trans (hb.mono hal.size)
 replace HA := Lib.hid (HA.out.old hbb)
 replace HB := Lib.hid (HB.out.trans (hbb.mono HB.out.size))
 replace Tta1 := Lib.hid (Tta1.out.old hbb)
 replace Tta2 := Lib.hid (Tta2.out.old hbb)
 replace I1 := Lib.hid (I1.out.below hbb)
 replace I2 := Lib.hid (I2.out.old hbb)
 replace BX1 := Lib.hid (BX1.out.old hbb)
 replace Ttb1 := Lib.hid (Ttb1.out.old hbb)
 replace Ttb2 := Lib.hid (Ttb2.out.old hbb)
 have J1 := Lib.hid (j1)
 have J2 := Lib.hid (j2)
 clear hal hb hbb j1 j2
 go_wp2_with fail
 have hal : Below w24.heap.size w24 (w24.alloc (.cells #[.int .i64 100, .int .i64 10, .slice (some ⟨Jg, 0, none⟩) 2 Jc, .slice (some ⟨Jm, 0, none⟩) 1 1] 33)) := ((Below.refl _ _).alloc (Nat.le_refl _) _)
 refine (tape_ok (w24.alloc (.cells #[.int .i64 100, .int .i64 10, .slice (some ⟨Jg, 0, none⟩) 2 Jc, .slice (some ⟨Jm, 0, none⟩) 1 1] 33))).mono ?_
 rintro e w25 ⟨tc1, tc2, rfl, j1, j2, -, -, hb⟩
 have hbb := hal.trans (hb.mono hal.size)
 replace HA := Lib.hid (HA.out.old hbb)
 replace HB := Lib.hid (HB.out.trans (hbb.mono HB.out.size))
 replace Tta1 := Lib.hid (Tta1.out.old hbb)
 replace Tta2 := Lib.hid (Tta2.out.old hbb)
 replace I1 := Lib.hid (I1.out.below hbb)
 replace I2 := Lib.hid (I2.out.old hbb)
 replace BX1 := Lib.hid (BX1.out.old hbb)
 replace Ttb1 := Lib.hid (Ttb1.out.old hbb)
 replace Ttb2 := Lib.hid (Ttb2.out.old hbb)
 replace J1 := Lib.hid (J1.out.below hbb)
 replace J2 := Lib.hid (J2.out.old hbb)
 have BX2 := Lib.hid ((Row.new w24 33 [.int .i64 100, .int .i64 10, .slice (some ⟨Jg, 0, none⟩) 2 Jc, .slice (some ⟨Jm, 0, none⟩) 1 1]).old hb)
 have Ttc1 := Lib.hid (j1)
 have Ttc2 := Lib.hid (j2)
 clear hal hb hbb j1 j2
 go_wp2_with (go_at_call 36; refine (to_any 2 4 _).mono ?_; rintro e wX ⟨rfl, rfl⟩)
 have hal : Below w25.heap.size w25 (w25.alloc (.cells #[.int .i64 2, .int .i64 4] 70)) := ((Below.refl _ _).alloc (Nat.le_refl _) _)
 refine (b_cut tc1 tc2 2 4 120 [1077936128, 1082130432] [((1 : Int), (⟨#[105, 110, 110, 101, 114]⟩ : ByteArray))] (w25.alloc (.cells #[.int .i64 2, .int .i64 4] 70)) (Ttc1.out.old hal) (Ttc2.out.old hal) (by decide) (by decide) (by kernel_rfl) (by decide) (by kernel_rfl) (by kernel_rfl)).mono ?_
 rintro e w26 ⟨Kg, Kc, Km, rfl, j1, j2, hb⟩
 have hbb := hal.trans (hb.mono hal.size)
 replace HA := Lib.hid (HA.out.old hbb)
 replace HB := Lib.hid (HB.out.trans (hbb.mono HB.out.size))
 replace Tta1 := Lib.hid (Tta1.out.old hbb)
 replace Tta2 := Lib.hid (Tta2.out.old hbb)
 replace I1 := Lib.hid (I1.out.below hbb)
 replace I2 := Lib.hid (I2.out.old hbb)
 replace BX1 := Lib.hid (BX1.out.old hbb)
 replace Ttb1 := Lib.hid (Ttb1.out.old hbb)
 replace Ttb2 := Lib.hid (Ttb2.out.old hbb)
 replace J1 := Lib.hid (J1.out.below hbb)
 replace J2 := Lib.hid (J2.out.old hbb)
 replace BX2 := Lib.hid (BX2.out.old hbb)
 replace Ttc1 := Lib.hid (Ttc1.out.old hbb)
 replace Ttc2 := Lib.hid (Ttc2.out.old hbb)
 have K1 := Lib.hid (j1)
 have K2 := Lib.hid (j2)
 clear hal hb hbb j1 j2
 go_upto_region 13 with fail
 refine genP (a1 := fun W => Row W w26.heap.size 33 [.int .i64 120, .int .i64 10, .slice (some ⟨Kg, 0, none⟩) 2 Kc, .slice (some ⟨Km, 0, none⟩) 1 1]) (a2 := fun W => Below w26.heap.size w26 W) (a3 := fun W => W.heap.size = w26.heap.size + 1) (a4 := fun _ => True) (w26.alloc (.cells #[.int .i64 120, .int .i64 10, .slice (some ⟨Kg, 0, none⟩) 2 Kc, .slice (some ⟨Km, 0, none⟩) 1 1] 33)) (Row.new w26 33 [.int .i64 120, .int .i64 10, .slice (some ⟨Kg, 0, none⟩) 2 Kc, .slice (some ⟨Km, 0, none⟩) 1 1]) ((Below.refl _ _).alloc (Nat.le_refl _) _) (by simp) trivial ?_
 intro W27 hrf hb hsz _
 have hbb := hb
 replace HA := Lib.hid (HA.out.old hbb)
 replace HB := Lib.hid (HB.out.trans (hbb.mono HB.out.size))
 replace Tta1 := Lib.hid (Tta1.out.old hbb)
 replace Tta2 := Lib.hid (Tta2.out.old hbb)
 replace I1 := Lib.hid (I1.out.below hbb)
 replace I2 := Lib.hid (I2.out.old hbb)
 replace BX1 := Lib.hid (BX1.out.old hbb)
 replace Ttb1 := Lib.hid (Ttb1.out.old hbb)
 replace Ttb2 := Lib.hid (Ttb2.out.old hbb)
 replace J1 := Lib.hid (J1.out.below hbb)
 replace J2 := Lib.hid (J2.out.old hbb)
 replace BX2 := Lib.hid (BX2.out.old hbb)
 replace Ttc1 := Lib.hid (Ttc1.out.old hbb)
 replace Ttc2 := Lib.hid (Ttc2.out.old hbb)
 replace K1 := Lib.hid (K1.out.below hbb)
 replace K2 := Lib.hid (K2.out.old hbb)
 have BX3 := Lib.hid (hrf)
 clear hb hbb hrf hsz
 have qx0 := BX2.out.cell 0
 have qx1 := BX2.out.cell 1
 have qx2 := BX2.out.cell 2
 have qx3 := BX2.out.cell 3
 simp only [List.getElem?_cons_succ, List.getElem?_cons_zero] at qx0 qx1 qx2 qx3
 have qy0 := BX3.out.cell 0
 have qy1 := BX3.out.cell 1
 have qy2 := BX3.out.cell 2
 have qy3 := BX3.out.cell 3
 simp only [List.getElem?_cons_succ, List.getElem?_cons_zero] at qy0 qy1 qy2 qy3
 go_wp2_with fail
 have hal := Below.refl W27.heap.size W27
 refine (b_join Jg Jm Kg Km Jc Kc W27 J1.out (Rd.row J2.out) K1.out (Rd.row K2.out)).mono ?_
 rintro e w28 ⟨lg, lm, lc, rfl, j1, j2, hb⟩
 have hbb := hal.trans (hb.mono hal.size)
 replace HA := Lib.hid (HA.out.old hbb)
 replace HB := Lib.hid (HB.out.trans (hbb.mono HB.out.size))
 replace Tta1 := Lib.hid (Tta1.out.old hbb)
 replace Tta2 := Lib.hid (Tta2.out.old hbb)
 replace I1 := Lib.hid (I1.out.below hbb)
 replace I2 := Lib.hid (I2.out.old hbb)
 replace BX1 := Lib.hid (BX1.out.old hbb)
 replace Ttb1 := Lib.hid (Ttb1.out.old hbb)
 replace Ttb2 := Lib.hid (Ttb2.out.old hbb)
 replace J1 := Lib.hid (J1.out.below hbb)
 replace J2 := Lib.hid (J2.out.old hbb)
 replace BX2 := Lib.hid (BX2.out.old hbb)
 replace Ttc1 := Lib.hid (Ttc1.out.old hbb)
 replace Ttc2 := Lib.hid (Ttc2.out.old hbb)
 replace K1 := Lib.hid (K1.out.below hbb)
 replace K2 := Lib.hid (K2.out.old hbb)
 replace BX3 := Lib.hid (BX3.out.old hbb)
 have L1 := Lib.hid (j1)
 have L2 := Lib.hid (j2)
 clear hal hb hbb j1 j2 qx0 qx1 qx2 qx3 qy0 qy1 qy2 qy3
 go_wp2_with fail
 have hal : Below w28.heap.size w28 ((w28.alloc (.cells #[.int .i64 100, .int .i64 10, .slice (some ⟨lg, 0, none⟩) 4 4, .slice (some ⟨lm, 0, none⟩) 2 lc] 33)).alloc (.cells #[.int .i64 0, .int .i64 0, .int .i64 16, .int .i64 0, .int .i64 0] 3)) := (((Below.refl _ _).alloc (Nat.le_refl _) _).alloc (by simp) _)
 refine (b_made (some ⟨w28.heap.size + 1, 0, none⟩) 5 [0, 0, 16, 0, 0] ((w28.alloc (.cells #[.int .i64 100, .int .i64 10, .slice (some ⟨lg, 0, none⟩) 4 4, .slice (some ⟨lm, 0, none⟩) 2 lc] 33)).alloc (.cells #[.int .i64 0, .int .i64 0, .int .i64 16, .int .i64 0, .int .i64 0] 3)) (by have h := Row.new (w28.alloc (.cells #[.int .i64 100, .int .i64 10, .slice (some ⟨lg, 0, none⟩) 4 4, .slice (some ⟨lm, 0, none⟩) 2 lc] 33)) 3 (ints [0, 0, 16, 0, 0]); rw [World.size_alloc] at h; exact Rd.row h) rfl (by decide)).mono ?_
 rintro e w29 ⟨ma, mc, rfl, j1, hb⟩
 have hbb := hal.trans (hb.mono hal.size)
 replace HA := Lib.hid (HA.out.old hbb)
 replace HB := Lib.hid (HB.out.trans (hbb.mono HB.out.size))
 replace Tta1 := Lib.hid (Tta1.out.old hbb)
 replace Tta2 := Lib.hid (Tta2.out.old hbb)
 replace I1 := Lib.hid (I1.out.below hbb)
 replace I2 := Lib.hid (I2.out.old hbb)
 replace BX1 := Lib.hid (BX1.out.old hbb)
 replace Ttb1 := Lib.hid (Ttb1.out.old hbb)
 replace Ttb2 := Lib.hid (Ttb2.out.old hbb)
 replace J1 := Lib.hid (J1.out.below hbb)
 replace J2 := Lib.hid (J2.out.old hbb)
 replace BX2 := Lib.hid (BX2.out.old hbb)
 replace Ttc1 := Lib.hid (Ttc1.out.old hbb)
 replace Ttc2 := Lib.hid (Ttc2.out.old hbb)
 replace K1 := Lib.hid (K1.out.below hbb)
 replace K2 := Lib.hid (K2.out.old hbb)
 replace BX3 := Lib.hid (BX3.out.old hbb)
 replace L1 := Lib.hid (L1.out.below hbb)
 replace L2 := Lib.hid (L2.out.below hbb)
 have BX4 := Lib.hid (((Row.new w28 33 [.int .i64 100, .int .i64 10, .slice (some ⟨lg, 0, none⟩) 4 4, .slice (some ⟨lm, 0, none⟩) 2 lc]).alloc _).old hb)
 have M1 := Lib.hid (j1)
 clear hal hb hbb j1
 go_wp2_with fail
 have hal : Below w29.heap.size w29 (w29.alloc (.cells #[.int .i64 0, .int .i64 0, .int .i64 0, .int .i64 16, .int .i64 0] 3)) := ((Below.refl _ _).alloc (Nat.le_refl _) _)
 refine (b_made (some ⟨w29.heap.size, 0, none⟩) 5 [0, 0, 0, 16, 0] (w29.alloc (.cells #[.int .i64 0, .int .i64 0, .int .i64 0, .int .i64 16, .int .i64 0] 3)) (Rd.row (Row.new w29 3 (ints [0, 0, 0, 16, 0]))) rfl (by decide)).mono ?_
 rintro e w30 ⟨na, nc, rfl, j1, hb⟩
 have hbb := hal.trans (hb.mono hal.size)
 replace HA := Lib.hid (HA.out.old hbb)
 replace HB := Lib.hid (HB.out.trans (hbb.mono HB.out.size))
 replace Tta1 := Lib.hid (Tta1.out.old hbb)
 replace Tta2 := Lib.hid (Tta2.out.old hbb)
 replace I1 := Lib.hid (I1.out.below hbb)
 replace I2 := Lib.hid (I2.out.old hbb)
 replace BX1 := Lib.hid (BX1.out.old hbb)
 replace Ttb1 := Lib.hid (Ttb1.out.old hbb)
 replace Ttb2 := Lib.hid (Ttb2.out.old hbb)
 replace J1 := Lib.hid (J1.out.below hbb)
 replace J2 := Lib.hid (J2.out.old hbb)
 replace BX2 := Lib.hid (BX2.out.old hbb)
 replace Ttc1 := Lib.hid (Ttc1.out.old hbb)
 replace Ttc2 := Lib.hid (Ttc2.out.old hbb)
 replace K1 := Lib.hid (K1.out.below hbb)
 replace K2 := Lib.hid (K2.out.old hbb)
 replace BX3 := Lib.hid (BX3.out.old hbb)
 replace L1 := Lib.hid (L1.out.below hbb)
 replace L2 := Lib.hid (L2.out.below hbb)
 replace BX4 := Lib.hid (BX4.out.old hbb)
 replace M1 := Lib.hid (M1.out.below hbb)
 have N1 := Lib.hid (j1)
 clear hal hb hbb j1
 go_wp2_with fail
 have hal := Below.refl w30.heap.size w30
 refine (b_al (some ⟨ma, 0, none⟩) (some ⟨na, 0, none⟩) mc nc w30 M1.out N1.out).mono ?_
 rintro e w31 ⟨rfl, hb⟩
 have hbb := hal.trans (hb.mono hal.size)
 replace HA := Lib.hid (HA.out.old hbb)
 replace HB := Lib.hid (HB.out.trans (hbb.mono HB.out.size))
 replace Tta1 := Lib.hid (Tta1.out.old hbb)
 replace Tta2 := Lib.hid (Tta2.out.old hbb)
 replace I1 := Lib.hid (I1.out.below hbb)
 replace I2 := Lib.hid (I2.out.old hbb)
 replace BX1 := Lib.hid (BX1.out.old hbb)
 replace Ttb1 := Lib.hid (Ttb1.out.old hbb)
 replace Ttb2 := Lib.hid (Ttb2.out.old hbb)
 replace J1 := Lib.hid (J1.out.below hbb)
 replace J2 := Lib.hid (J2.out.old hbb)
 replace BX2 := Lib.hid (BX2.out.old hbb)
 replace Ttc1 := Lib.hid (Ttc1.out.old hbb)
 replace Ttc2 := Lib.hid (Ttc2.out.old hbb)
 replace K1 := Lib.hid (K1.out.below hbb)
 replace K2 := Lib.hid (K2.out.old hbb)
 replace BX3 := Lib.hid (BX3.out.old hbb)
 replace L1 := Lib.hid (L1.out.below hbb)
 replace L2 := Lib.hid (L2.out.below hbb)
 replace BX4 := Lib.hid (BX4.out.old hbb)
 replace M1 := Lib.hid (M1.out.below hbb)
 replace N1 := Lib.hid (N1.out.below hbb)
 clear hal hb hbb
 go_wp2_with fail
 have hal : Below w31.heap.size w31 (w31.alloc (.cells #[.int .i64 0, .int .i64 1] 110)) := ((Below.refl _ _).alloc (Nat.le_refl _) _)
 refine (b_key ⟨#[67]⟩ 2 20 _ (w31.alloc (.cells #[.int .i64 0, .int .i64 1] 110)) (HA.out.old hal) (by decide) (by decide) v_word1 v_key1 (by decide) (by decide)).mono ?_
 rintro e w32 ⟨ka, kc, rfl, j1, hb⟩
 have hbb := hal.trans (hb.mono hal.size)
 replace HA := Lib.hid (HA.out.old hbb)
 replace HB := Lib.hid (HB.out.trans (hbb.mono HB.out.size))
 replace Tta1 := Lib.hid (Tta1.out.old hbb)
 replace Tta2 := Lib.hid (Tta2.out.old hbb)
 replace I1 := Lib.hid (I1.out.below hbb)
 replace I2 := Lib.hid (I2.out.old hbb)
 replace BX1 := Lib.hid (BX1.out.old hbb)
 replace Ttb1 := Lib.hid (Ttb1.out.old hbb)
 replace Ttb2 := Lib.hid (Ttb2.out.old hbb)
 replace J1 := Lib.hid (J1.out.below hbb)
 replace J2 := Lib.hid (J2.out.old hbb)
 replace BX2 := Lib.hid (BX2.out.old hbb)
 replace Ttc1 := Lib.hid (Ttc1.out.old hbb)
 replace Ttc2 := Lib.hid (Ttc2.out.old hbb)
 replace K1 := Lib.hid (K1.out.below hbb)
 replace K2 := Lib.hid (K2.out.old hbb)
 replace BX3 := Lib.hid (BX3.out.old hbb)
 replace L1 := Lib.hid (L1.out.below hbb)
 replace L2 := Lib.hid (L2.out.below hbb)
 replace BX4 := Lib.hid (BX4.out.old hbb)
 replace M1 := Lib.hid (M1.out.below hbb)
 replace N1 := Lib.hid (N1.out.below hbb)
 have BY := Lib.hid ((Row.new w31 110 [.int .i64 0, .int .i64 1]).old hb)
 have P1 := Lib.hid (j1)
 clear hal hb hbb j1
 go_wp2_with fail
 have hal := Below.refl w32.heap.size w32
 refine (b_key ⟨#[65, 66]⟩ 1 14 _ w32 (HA.out.old hal) (by decide) (by decide) v_word2 v_key2 (by decide) (by decide)).mono ?_
 rintro e w33 ⟨qa, qc, rfl, j1, hb⟩
 have hbb := hal.trans (hb.mono hal.size)
 replace HA := Lib.hid (HA.out.old hbb)
 replace HB := Lib.hid (HB.out.trans (hbb.mono HB.out.size))
 replace Tta1 := Lib.hid (Tta1.out.old hbb)
 replace Tta2 := Lib.hid (Tta2.out.old hbb)
 replace I1 := Lib.hid (I1.out.below hbb)
 replace I2 := Lib.hid (I2.out.old hbb)
 replace BX1 := Lib.hid (BX1.out.old hbb)
 replace Ttb1 := Lib.hid (Ttb1.out.old hbb)
 replace Ttb2 := Lib.hid (Ttb2.out.old hbb)
 replace J1 := Lib.hid (J1.out.below hbb)
 replace J2 := Lib.hid (J2.out.old hbb)
 replace BX2 := Lib.hid (BX2.out.old hbb)
 replace Ttc1 := Lib.hid (Ttc1.out.old hbb)
 replace Ttc2 := Lib.hid (Ttc2.out.old hbb)
 replace K1 := Lib.hid (K1.out.below hbb)
 replace K2 := Lib.hid (K2.out.old hbb)
 replace BX3 := Lib.hid (BX3.out.old hbb)
 replace L1 := Lib.hid (L1.out.below hbb)
 replace L2 := Lib.hid (L2.out.below hbb)
 replace BX4 := Lib.hid (BX4.out.old hbb)
 replace M1 := Lib.hid (M1.out.below hbb)
 replace N1 := Lib.hid (N1.out.below hbb)
 replace BY := Lib.hid (BY.out.old hbb)
 replace P1 := Lib.hid (P1.out.below hbb)
 have Q1 := Lib.hid (j1)
 clear hal hb hbb j1
 go_wp2_with fail
 have hal : Below w33.heap.size w33 (w33.alloc (.cells #[.float .f32 1065353216, .float .f32 0, .float .f32 1065353216, .float .f32 1065353216, .float .f32 1065353216, .float .f32 0, .float .f32 0, .float .f32 0, .float .f32 1065353216] 56)) := ((Below.refl _ _).alloc (Nat.le_refl _) _)
 refine (b_heard (some ⟨w33.heap.size, 0, none⟩) 9 (w33.alloc (.cells #[.float .f32 1065353216, .float .f32 0, .float .f32 1065353216, .float .f32 1065353216, .float .f32 1065353216, .float .f32 0, .float .f32 0, .float .f32 0, .float .f32 1065353216] 56)) (HA.out.old hal) (Rd.row (Row.new w33 56 (flts xH)))).mono ?_
 rintro e w34 ⟨oa, oc, rfl, j1, hb⟩
 have hbb := hal.trans (hb.mono hal.size)
 replace HA := Lib.hid (HA.out.old hbb)
 replace HB := Lib.hid (HB.out.trans (hbb.mono HB.out.size))
 replace Tta1 := Lib.hid (Tta1.out.old hbb)
 replace Tta2 := Lib.hid (Tta2.out.old hbb)
 replace I1 := Lib.hid (I1.out.below hbb)
 replace I2 := Lib.hid (I2.out.old hbb)
 replace BX1 := Lib.hid (BX1.out.old hbb)
 replace Ttb1 := Lib.hid (Ttb1.out.old hbb)
 replace Ttb2 := Lib.hid (Ttb2.out.old hbb)
 replace J1 := Lib.hid (J1.out.below hbb)
 replace J2 := Lib.hid (J2.out.old hbb)
 replace BX2 := Lib.hid (BX2.out.old hbb)
 replace Ttc1 := Lib.hid (Ttc1.out.old hbb)
 replace Ttc2 := Lib.hid (Ttc2.out.old hbb)
 replace K1 := Lib.hid (K1.out.below hbb)
 replace K2 := Lib.hid (K2.out.old hbb)
 replace BX3 := Lib.hid (BX3.out.old hbb)
 replace L1 := Lib.hid (L1.out.below hbb)
 replace L2 := Lib.hid (L2.out.below hbb)
 replace BX4 := Lib.hid (BX4.out.old hbb)
 replace M1 := Lib.hid (M1.out.below hbb)
 replace N1 := Lib.hid (N1.out.below hbb)
 replace BY := Lib.hid (BY.out.old hbb)
 replace P1 := Lib.hid (P1.out.below hbb)
 replace Q1 := Lib.hid (Q1.out.below hbb)
 have O1 := Lib.hid (j1)
 clear hal hb hbb j1
 go_wp2_with fail
 have hal : Below w34.heap.size w34 (w34.alloc (.cells #[.float .f32 1065353216, .float .f32 3204448256] 56)) := ((Below.refl _ _).alloc (Nat.le_refl _) _)
 refine (b_pack (some ⟨w34.heap.size, 0, none⟩) 2 (w34.alloc (.cells #[.float .f32 1065353216, .float .f32 3204448256] 56)) (Rd.row (Row.new w34 56 (flts [1065353216, 3204448256])))).mono ?_
 rintro e w35 ⟨pa, pc, rfl, hpc, j1, hb⟩
 have hbb := hal.trans (hb.mono hal.size)
 replace HA := Lib.hid (HA.out.old hbb)
 replace HB := Lib.hid (HB.out.trans (hbb.mono HB.out.size))
 replace Tta1 := Lib.hid (Tta1.out.old hbb)
 replace Tta2 := Lib.hid (Tta2.out.old hbb)
 replace I1 := Lib.hid (I1.out.below hbb)
 replace I2 := Lib.hid (I2.out.old hbb)
 replace BX1 := Lib.hid (BX1.out.old hbb)
 replace Ttb1 := Lib.hid (Ttb1.out.old hbb)
 replace Ttb2 := Lib.hid (Ttb2.out.old hbb)
 replace J1 := Lib.hid (J1.out.below hbb)
 replace J2 := Lib.hid (J2.out.old hbb)
 replace BX2 := Lib.hid (BX2.out.old hbb)
 replace Ttc1 := Lib.hid (Ttc1.out.old hbb)
 replace Ttc2 := Lib.hid (Ttc2.out.old hbb)
 replace K1 := Lib.hid (K1.out.below hbb)
 replace K2 := Lib.hid (K2.out.old hbb)
 replace BX3 := Lib.hid (BX3.out.old hbb)
 replace L1 := Lib.hid (L1.out.below hbb)
 replace L2 := Lib.hid (L2.out.below hbb)
 replace BX4 := Lib.hid (BX4.out.old hbb)
 replace M1 := Lib.hid (M1.out.below hbb)
 replace N1 := Lib.hid (N1.out.below hbb)
 replace BY := Lib.hid (BY.out.old hbb)
 replace P1 := Lib.hid (P1.out.below hbb)
 replace Q1 := Lib.hid (Q1.out.below hbb)
 replace O1 := Lib.hid (O1.out.below hbb)
 have R1 := Lib.hid (j1)
 clear hal hb hbb j1
 go_wp2_with fail
 have hal := Below.refl w35.heap.size w35
 refine (b_unpack (some ⟨pa, 0, none⟩) pc w35 R1.out hpc).mono ?_
 rintro e w36 ⟨ua, rfl, j1, hb⟩
 have hbb := hal.trans (hb.mono hal.size)
 replace HA := Lib.hid (HA.out.old hbb)
 replace HB := Lib.hid (HB.out.trans (hbb.mono HB.out.size))
 replace Tta1 := Lib.hid (Tta1.out.old hbb)
 replace Tta2 := Lib.hid (Tta2.out.old hbb)
 replace I1 := Lib.hid (I1.out.below hbb)
 replace I2 := Lib.hid (I2.out.old hbb)
 replace BX1 := Lib.hid (BX1.out.old hbb)
 replace Ttb1 := Lib.hid (Ttb1.out.old hbb)
 replace Ttb2 := Lib.hid (Ttb2.out.old hbb)
 replace J1 := Lib.hid (J1.out.below hbb)
 replace J2 := Lib.hid (J2.out.old hbb)
 replace BX2 := Lib.hid (BX2.out.old hbb)
 replace Ttc1 := Lib.hid (Ttc1.out.old hbb)
 replace Ttc2 := Lib.hid (Ttc2.out.old hbb)
 replace K1 := Lib.hid (K1.out.below hbb)
 replace K2 := Lib.hid (K2.out.old hbb)
 replace BX3 := Lib.hid (BX3.out.old hbb)
 replace L1 := Lib.hid (L1.out.below hbb)
 replace L2 := Lib.hid (L2.out.below hbb)
 replace BX4 := Lib.hid (BX4.out.old hbb)
 replace M1 := Lib.hid (M1.out.below hbb)
 replace N1 := Lib.hid (N1.out.below hbb)
 replace BY := Lib.hid (BY.out.old hbb)
 replace P1 := Lib.hid (P1.out.below hbb)
 replace Q1 := Lib.hid (Q1.out.below hbb)
 replace O1 := Lib.hid (O1.out.below hbb)
 replace R1 := Lib.hid (R1.out.below hbb)
 have U1 := Lib.hid (j1)
 clear hal hb hbb j1
 go_wp2_with fail
 have hal := Below.refl w36.heap.size w36
 refine (tape_ok w36).mono ?_
 rintro e w37 ⟨td1, td2, rfl, j1, j2, -, -, hb⟩
 have hbb := hal.trans (hb.mono hal.size)
 replace HA := Lib.hid (HA.out.old hbb)
 replace HB := Lib.hid (HB.out.trans (hbb.mono HB.out.size))
 replace Tta1 := Lib.hid (Tta1.out.old hbb)
 replace Tta2 := Lib.hid (Tta2.out.old hbb)
 replace I1 := Lib.hid (I1.out.below hbb)
 replace I2 := Lib.hid (I2.out.old hbb)
 replace BX1 := Lib.hid (BX1.out.old hbb)
 replace Ttb1 := Lib.hid (Ttb1.out.old hbb)
 replace Ttb2 := Lib.hid (Ttb2.out.old hbb)
 replace J1 := Lib.hid (J1.out.below hbb)
 replace J2 := Lib.hid (J2.out.old hbb)
 replace BX2 := Lib.hid (BX2.out.old hbb)
 replace Ttc1 := Lib.hid (Ttc1.out.old hbb)
 replace Ttc2 := Lib.hid (Ttc2.out.old hbb)
 replace K1 := Lib.hid (K1.out.below hbb)
 replace K2 := Lib.hid (K2.out.old hbb)
 replace BX3 := Lib.hid (BX3.out.old hbb)
 replace L1 := Lib.hid (L1.out.below hbb)
 replace L2 := Lib.hid (L2.out.below hbb)
 replace BX4 := Lib.hid (BX4.out.old hbb)
 replace M1 := Lib.hid (M1.out.below hbb)
 replace N1 := Lib.hid (N1.out.below hbb)
 replace BY := Lib.hid (BY.out.old hbb)
 replace P1 := Lib.hid (P1.out.below hbb)
 replace Q1 := Lib.hid (Q1.out.below hbb)
 replace O1 := Lib.hid (O1.out.below hbb)
 replace R1 := Lib.hid (R1.out.below hbb)
 replace U1 := Lib.hid (U1.out.below hbb)
 have Ttd1 := Lib.hid (j1)
 have Ttd2 := Lib.hid (j2)
 clear hal hb hbb j1 j2
 go_wp2_with fail
 have hal := Below.refl w37.heap.size w37
 refine (b_print2 td1 td2 w37 HA.out Ttd1.out Ttd2.out).mono ?_
 rintro e w38 ⟨PS, rfl, hPE, hb⟩
 have hbb := hal.trans (hb.mono hal.size)
 replace HA := Lib.hid (HA.out.old hbb)
 replace HB := Lib.hid (HB.out.trans (hbb.mono HB.out.size))
 replace Tta1 := Lib.hid (Tta1.out.old hbb)
 replace Tta2 := Lib.hid (Tta2.out.old hbb)
 replace I1 := Lib.hid (I1.out.below hbb)
 replace I2 := Lib.hid (I2.out.old hbb)
 replace BX1 := Lib.hid (BX1.out.old hbb)
 replace Ttb1 := Lib.hid (Ttb1.out.old hbb)
 replace Ttb2 := Lib.hid (Ttb2.out.old hbb)
 replace J1 := Lib.hid (J1.out.below hbb)
 replace J2 := Lib.hid (J2.out.old hbb)
 replace BX2 := Lib.hid (BX2.out.old hbb)
 replace Ttc1 := Lib.hid (Ttc1.out.old hbb)
 replace Ttc2 := Lib.hid (Ttc2.out.old hbb)
 replace K1 := Lib.hid (K1.out.below hbb)
 replace K2 := Lib.hid (K2.out.old hbb)
 replace BX3 := Lib.hid (BX3.out.old hbb)
 replace L1 := Lib.hid (L1.out.below hbb)
 replace L2 := Lib.hid (L2.out.below hbb)
 replace BX4 := Lib.hid (BX4.out.old hbb)
 replace M1 := Lib.hid (M1.out.below hbb)
 replace N1 := Lib.hid (N1.out.below hbb)
 replace BY := Lib.hid (BY.out.old hbb)
 replace P1 := Lib.hid (P1.out.below hbb)
 replace Q1 := Lib.hid (Q1.out.below hbb)
 replace O1 := Lib.hid (O1.out.below hbb)
 replace R1 := Lib.hid (R1.out.below hbb)
 replace U1 := Lib.hid (U1.out.below hbb)
 replace Ttd1 := Lib.hid (Ttd1.out.old hbb)
 replace Ttd2 := Lib.hid (Ttd2.out.old hbb)
 clear hal hb hbb
 go_wp2_with fail
 have hal := Below.refl w38.heap.size w38
 refine (b_parse2 PS hPE w38 HA.out).mono ?_
 rintro e w39 ⟨sA, sc, sB, sd, rfl, j1, j2, hb⟩
 have hbb := hal.trans (hb.mono hal.size)
 replace HA := Lib.hid (HA.out.old hbb)
 replace HB := Lib.hid (HB.out.trans (hbb.mono HB.out.size))
 replace Tta1 := Lib.hid (Tta1.out.old hbb)
 replace Tta2 := Lib.hid (Tta2.out.old hbb)
 replace I1 := Lib.hid (I1.out.below hbb)
 replace I2 := Lib.hid (I2.out.old hbb)
 replace BX1 := Lib.hid (BX1.out.old hbb)
 replace Ttb1 := Lib.hid (Ttb1.out.old hbb)
 replace Ttb2 := Lib.hid (Ttb2.out.old hbb)
 replace J1 := Lib.hid (J1.out.below hbb)
 replace J2 := Lib.hid (J2.out.old hbb)
 replace BX2 := Lib.hid (BX2.out.old hbb)
 replace Ttc1 := Lib.hid (Ttc1.out.old hbb)
 replace Ttc2 := Lib.hid (Ttc2.out.old hbb)
 replace K1 := Lib.hid (K1.out.below hbb)
 replace K2 := Lib.hid (K2.out.old hbb)
 replace BX3 := Lib.hid (BX3.out.old hbb)
 replace L1 := Lib.hid (L1.out.below hbb)
 replace L2 := Lib.hid (L2.out.below hbb)
 replace BX4 := Lib.hid (BX4.out.old hbb)
 replace M1 := Lib.hid (M1.out.below hbb)
 replace N1 := Lib.hid (N1.out.below hbb)
 replace BY := Lib.hid (BY.out.old hbb)
 replace P1 := Lib.hid (P1.out.below hbb)
 replace Q1 := Lib.hid (Q1.out.below hbb)
 replace O1 := Lib.hid (O1.out.below hbb)
 replace R1 := Lib.hid (R1.out.below hbb)
 replace U1 := Lib.hid (U1.out.below hbb)
 replace Ttd1 := Lib.hid (Ttd1.out.old hbb)
 replace Ttd2 := Lib.hid (Ttd2.out.old hbb)
 have V1 := Lib.hid (j1)
 have V2 := Lib.hid (j2)
 clear hal hb hbb j1 j2
 go_upto_region 22 with fail
 refine genP (a1 := fun W => Row W w39.heap.size 33 [.int .i64 100, .int .i64 10, .slice sA 4 sc, .slice sB 2 sd]) (a2 := fun W => Below w39.heap.size w39 W) (a3 := fun W => W.heap.size = w39.heap.size + 1) (a4 := fun _ => True) (w39.alloc (.cells #[.int .i64 100, .int .i64 10, .slice sA 4 sc, .slice sB 2 sd] 33)) (Row.new w39 33 [.int .i64 100, .int .i64 10, .slice sA 4 sc, .slice sB 2 sd]) ((Below.refl _ _).alloc (Nat.le_refl _) _) (by simp) trivial ?_
 intro W40 hrf hb hsz _
 have hbb := hb
 replace HA := Lib.hid (HA.out.old hbb)
 replace HB := Lib.hid (HB.out.trans (hbb.mono HB.out.size))
 replace Tta1 := Lib.hid (Tta1.out.old hbb)
 replace Tta2 := Lib.hid (Tta2.out.old hbb)
 replace I1 := Lib.hid (I1.out.below hbb)
 replace I2 := Lib.hid (I2.out.old hbb)
 replace BX1 := Lib.hid (BX1.out.old hbb)
 replace Ttb1 := Lib.hid (Ttb1.out.old hbb)
 replace Ttb2 := Lib.hid (Ttb2.out.old hbb)
 replace J1 := Lib.hid (J1.out.below hbb)
 replace J2 := Lib.hid (J2.out.old hbb)
 replace BX2 := Lib.hid (BX2.out.old hbb)
 replace Ttc1 := Lib.hid (Ttc1.out.old hbb)
 replace Ttc2 := Lib.hid (Ttc2.out.old hbb)
 replace K1 := Lib.hid (K1.out.below hbb)
 replace K2 := Lib.hid (K2.out.old hbb)
 replace BX3 := Lib.hid (BX3.out.old hbb)
 replace L1 := Lib.hid (L1.out.below hbb)
 replace L2 := Lib.hid (L2.out.below hbb)
 replace BX4 := Lib.hid (BX4.out.old hbb)
 replace M1 := Lib.hid (M1.out.below hbb)
 replace N1 := Lib.hid (N1.out.below hbb)
 replace BY := Lib.hid (BY.out.old hbb)
 replace P1 := Lib.hid (P1.out.below hbb)
 replace Q1 := Lib.hid (Q1.out.below hbb)
 replace O1 := Lib.hid (O1.out.below hbb)
 replace R1 := Lib.hid (R1.out.below hbb)
 replace U1 := Lib.hid (U1.out.below hbb)
 replace Ttd1 := Lib.hid (Ttd1.out.old hbb)
 replace Ttd2 := Lib.hid (Ttd2.out.old hbb)
 replace V1 := Lib.hid (V1.out.below hbb)
 replace V2 := Lib.hid (V2.out.below hbb)
 have BX5 := Lib.hid (hrf)
 clear hb hbb hrf hsz
 have qi0 := BX1.out.cell 0
 have qi1 := BX1.out.cell 1
 have qi2 := BX1.out.cell 2
 have qi3 := BX1.out.cell 3
 simp only [List.getElem?_cons_succ, List.getElem?_cons_zero] at qi0 qi1 qi2 qi3
 go_wp2_with fail
 have hal : Below W40.heap.size W40 (W40.alloc (.cells #[.float .f32 1073741824, .float .f32 1077936128] 56)) := ((Below.refl _ _).alloc (Nat.le_refl _) _)
 refine (s50 (some ⟨Ig, 0, none⟩) (some ⟨W40.heap.size, 0, none⟩) 2 Ic 2 [1073741824, 1077936128] [1073741824, 1077936128] (W40.alloc (.cells #[.float .f32 1073741824, .float .f32 1077936128] 56)) (I1.out.below hal) (Rd.row (Row.new W40 56 (flts [1073741824, 1077936128]))) rfl rfl (by decide) (by kernel_rfl)).mono ?_
 rintro e w41 ⟨rfl, hb⟩
 have hbb := hal.trans (hb.mono hal.size)
 replace HA := Lib.hid (HA.out.old hbb)
 replace HB := Lib.hid (HB.out.trans (hbb.mono HB.out.size))
 replace Tta1 := Lib.hid (Tta1.out.old hbb)
 replace Tta2 := Lib.hid (Tta2.out.old hbb)
 replace I1 := Lib.hid (I1.out.below hbb)
 replace I2 := Lib.hid (I2.out.old hbb)
 replace BX1 := Lib.hid (BX1.out.old hbb)
 replace Ttb1 := Lib.hid (Ttb1.out.old hbb)
 replace Ttb2 := Lib.hid (Ttb2.out.old hbb)
 replace J1 := Lib.hid (J1.out.below hbb)
 replace J2 := Lib.hid (J2.out.old hbb)
 replace BX2 := Lib.hid (BX2.out.old hbb)
 replace Ttc1 := Lib.hid (Ttc1.out.old hbb)
 replace Ttc2 := Lib.hid (Ttc2.out.old hbb)
 replace K1 := Lib.hid (K1.out.below hbb)
 replace K2 := Lib.hid (K2.out.old hbb)
 replace BX3 := Lib.hid (BX3.out.old hbb)
 replace L1 := Lib.hid (L1.out.below hbb)
 replace L2 := Lib.hid (L2.out.below hbb)
 replace BX4 := Lib.hid (BX4.out.old hbb)
 replace M1 := Lib.hid (M1.out.below hbb)
 replace N1 := Lib.hid (N1.out.below hbb)
 replace BY := Lib.hid (BY.out.old hbb)
 replace P1 := Lib.hid (P1.out.below hbb)
 replace Q1 := Lib.hid (Q1.out.below hbb)
 replace O1 := Lib.hid (O1.out.below hbb)
 replace R1 := Lib.hid (R1.out.below hbb)
 replace U1 := Lib.hid (U1.out.below hbb)
 replace Ttd1 := Lib.hid (Ttd1.out.old hbb)
 replace Ttd2 := Lib.hid (Ttd2.out.old hbb)
 replace V1 := Lib.hid (V1.out.below hbb)
 replace V2 := Lib.hid (V2.out.below hbb)
 replace BX5 := Lib.hid (BX5.out.old hbb)
 clear hal hb hbb qi0 qi1 qi2 qi3
 have qi0 := BX1.out.cell 0
 have qj0 := BX4.out.cell 0
 have qi1 := BX1.out.cell 1
 have qj1 := BX4.out.cell 1
 have qi2 := BX1.out.cell 2
 have qj2 := BX4.out.cell 2
 have qi3 := BX1.out.cell 3
 have qj3 := BX4.out.cell 3
 have qm0 := I2.out.cell 0
 have qm1 := I2.out.cell 1
 have hEM := eqlMark
 simp only [markC, List.flatMap_cons, List.flatMap_nil, List.cons_append, List.nil_append, List.getElem?_cons_succ, List.getElem?_cons_zero] at qi0 qj0 qi1 qj1 qi2 qj2 qi3 qj3 qm0 qm1
 go_wp2_with fail
 clear Tta1 Tta2 I1 I2 Ttb1 Ttb2 J1 J2 BX2 Ttc1 Ttc2 K1 K2 BX3 M1 N1 Ttd1 Ttd2
 have hal := Below.refl w41.heap.size w41
 refine (b_told (some ⟨lg, 0, none⟩) (some ⟨lm, 0, none⟩) 4 lc w41 L1.out L2.out).mono ?_
 rintro e w42 ⟨xA, xc, xB, xd, rfl, j1, j2, hb⟩
 have hbb := hal.trans (hb.mono hal.size)
 replace HA := Lib.hid (HA.out.old hbb)
 replace HB := Lib.hid (HB.out.trans (hbb.mono HB.out.size))
 replace BX1 := Lib.hid (BX1.out.old hbb)
 replace L1 := Lib.hid (L1.out.below hbb)
 replace L2 := Lib.hid (L2.out.below hbb)
 replace BX4 := Lib.hid (BX4.out.old hbb)
 replace BY := Lib.hid (BY.out.old hbb)
 replace P1 := Lib.hid (P1.out.below hbb)
 replace Q1 := Lib.hid (Q1.out.below hbb)
 replace O1 := Lib.hid (O1.out.below hbb)
 replace R1 := Lib.hid (R1.out.below hbb)
 replace U1 := Lib.hid (U1.out.below hbb)
 replace V1 := Lib.hid (V1.out.below hbb)
 replace V2 := Lib.hid (V2.out.below hbb)
 replace BX5 := Lib.hid (BX5.out.old hbb)
 have X1 := Lib.hid (j1)
 have X2 := Lib.hid (j2)
 clear hal hb hbb j1 j2 qi0 qi1 qi2 qi3 qj0 qj1 qj2 qj3 qm0 qm1 hEM
 clear BX1 BX4 L1 L2
 go_wp2_with fail
 have hal := Below.refl w42.heap.size w42
 refine (tape_ok w42).mono ?_
 rintro e w43 ⟨te1, te2, rfl, j1, j2, -, -, hb⟩
 have hbb := hal.trans (hb.mono hal.size)
 replace HA := Lib.hid (HA.out.old hbb)
 replace HB := Lib.hid (HB.out.trans (hbb.mono HB.out.size))
 replace BY := Lib.hid (BY.out.old hbb)
 replace P1 := Lib.hid (P1.out.below hbb)
 replace Q1 := Lib.hid (Q1.out.below hbb)
 replace O1 := Lib.hid (O1.out.below hbb)
 replace R1 := Lib.hid (R1.out.below hbb)
 replace U1 := Lib.hid (U1.out.below hbb)
 replace V1 := Lib.hid (V1.out.below hbb)
 replace V2 := Lib.hid (V2.out.below hbb)
 replace BX5 := Lib.hid (BX5.out.old hbb)
 replace X1 := Lib.hid (X1.out.below hbb)
 replace X2 := Lib.hid (X2.out.below hbb)
 have Tte1 := Lib.hid (j1)
 have Tte2 := Lib.hid (j2)
 clear hal hb hbb j1 j2
 go_wp2_with fail
 have hal := Below.refl w43.heap.size w43
 refine (b_told (some ⟨te1, 0, none⟩) (some ⟨te2, 0, none⟩) 4 2 w43 (Rd.row Tte1.out) (Rd.row Tte2.out)).mono ?_
 rintro e w44 ⟨yA, yc, yB, yd, rfl, j1, j2, hb⟩
 have hbb := hal.trans (hb.mono hal.size)
 replace HA := Lib.hid (HA.out.old hbb)
 replace HB := Lib.hid (HB.out.trans (hbb.mono HB.out.size))
 replace BY := Lib.hid (BY.out.old hbb)
 replace P1 := Lib.hid (P1.out.below hbb)
 replace Q1 := Lib.hid (Q1.out.below hbb)
 replace O1 := Lib.hid (O1.out.below hbb)
 replace R1 := Lib.hid (R1.out.below hbb)
 replace U1 := Lib.hid (U1.out.below hbb)
 replace V1 := Lib.hid (V1.out.below hbb)
 replace V2 := Lib.hid (V2.out.below hbb)
 replace BX5 := Lib.hid (BX5.out.old hbb)
 replace X1 := Lib.hid (X1.out.below hbb)
 replace X2 := Lib.hid (X2.out.below hbb)
 replace Tte1 := Lib.hid (Tte1.out.old hbb)
 replace Tte2 := Lib.hid (Tte2.out.old hbb)
 have Y1 := Lib.hid (j1)
 have Y2 := Lib.hid (j2)
 clear hal hb hbb j1 j2
 go_wp2_with fail
 have hal := Below.refl w44.heap.size w44
 refine (b_sameR xA xB yA yB xc xd yc yd w44 X1.out X2.out Y1.out Y2.out).mono ?_
 rintro e w45 ⟨rfl, hb⟩
 have hbb := hal.trans (hb.mono hal.size)
 replace HA := Lib.hid (HA.out.old hbb)
 replace HB := Lib.hid (HB.out.trans (hbb.mono HB.out.size))
 replace BY := Lib.hid (BY.out.old hbb)
 replace P1 := Lib.hid (P1.out.below hbb)
 replace Q1 := Lib.hid (Q1.out.below hbb)
 replace O1 := Lib.hid (O1.out.below hbb)
 replace R1 := Lib.hid (R1.out.below hbb)
 replace U1 := Lib.hid (U1.out.below hbb)
 replace V1 := Lib.hid (V1.out.below hbb)
 replace V2 := Lib.hid (V2.out.below hbb)
 replace BX5 := Lib.hid (BX5.out.old hbb)
 replace X1 := Lib.hid (X1.out.below hbb)
 replace X2 := Lib.hid (X2.out.below hbb)
 replace Tte1 := Lib.hid (Tte1.out.old hbb)
 replace Tte2 := Lib.hid (Tte2.out.old hbb)
 replace Y1 := Lib.hid (Y1.out.below hbb)
 replace Y2 := Lib.hid (Y2.out.below hbb)
 clear hal hb hbb
 clear X1 X2 Y1 Y2 Tte1 Tte2
 have qy0 := BY.out.cell 0
 have qy1 := BY.out.cell 1
 simp only [List.getElem?_cons_succ, List.getElem?_cons_zero] at qy0 qy1
 have hER := eqlRatio
 obtain ⟨cz46, w46, hrun, hz, hb⟩ := app_zeros [1065353216, 1065353216, 0, 0, 1065353216, 1065353216] 14 14 rfl (by decide) (by decide) (by decide) w45
 simp only [flts, List.map_cons, List.map_nil, List.length_cons, List.length_nil, Nat.reduceAdd] at hrun
 go_wp2_with (at_builtin; refine wpList_appz (by kernel_rfl) _ _ _ _ rfl _ hrun ?_)
 have hbb := hb
 replace HA := Lib.hid (HA.out.old hbb)
 replace HB := Lib.hid (HB.out.trans (hbb.mono HB.out.size))
 replace BY := Lib.hid (BY.out.old hbb)
 replace P1 := Lib.hid (P1.out.below hbb)
 replace Q1 := Lib.hid (Q1.out.below hbb)
 replace O1 := Lib.hid (O1.out.below hbb)
 replace R1 := Lib.hid (R1.out.below hbb)
 replace U1 := Lib.hid (U1.out.below hbb)
 replace V1 := Lib.hid (V1.out.below hbb)
 replace V2 := Lib.hid (V2.out.below hbb)
 replace BX5 := Lib.hid (BX5.out.old hbb)
 clear hbb hb hrun
 have hal := Below.refl w46.heap.size w46
 refine (s50 (some ⟨ka, 0, none⟩) (some ⟨w45.heap.size + 1, 0, none⟩) 20 kc cz46 ([1065353216, 1065353216, 0, 0, 1065353216, 1065353216] ++ List.replicate 14 0) ([1065353216, 1065353216, 0, 0, 1065353216, 1065353216] ++ List.replicate 14 0) w46 P1.out hz rfl rfl (by decide) (by kernel_rfl)).mono ?_
 rintro e w47 ⟨rfl, hb⟩
 have hbb := hal.trans (hb.mono hal.size)
 replace HA := Lib.hid (HA.out.old hbb)
 replace HB := Lib.hid (HB.out.trans (hbb.mono HB.out.size))
 replace BY := Lib.hid (BY.out.old hbb)
 replace P1 := Lib.hid (P1.out.below hbb)
 replace Q1 := Lib.hid (Q1.out.below hbb)
 replace O1 := Lib.hid (O1.out.below hbb)
 replace R1 := Lib.hid (R1.out.below hbb)
 replace U1 := Lib.hid (U1.out.below hbb)
 replace V1 := Lib.hid (V1.out.below hbb)
 replace V2 := Lib.hid (V2.out.below hbb)
 replace BX5 := Lib.hid (BX5.out.old hbb)
 clear hal hb hbb hz qy0 qy1 hER
 clear BY P1
 obtain ⟨cz48, w48, hrun, hz, hb⟩ := app_zeros [1065353216, 0, 0, 0, 1065353216, 1065353216, 1065353216] 7 7 rfl (by decide) (by decide) (by decide) w47
 simp only [flts, List.map_cons, List.map_nil, List.length_cons, List.length_nil, Nat.reduceAdd] at hrun
 go_wp2_with (at_builtin; refine wpList_appz (by kernel_rfl) _ _ _ _ rfl _ hrun ?_)
 have hbb := hb
 replace HA := Lib.hid (HA.out.old hbb)
 replace HB := Lib.hid (HB.out.trans (hbb.mono HB.out.size))
 replace Q1 := Lib.hid (Q1.out.below hbb)
 replace O1 := Lib.hid (O1.out.below hbb)
 replace R1 := Lib.hid (R1.out.below hbb)
 replace U1 := Lib.hid (U1.out.below hbb)
 replace V1 := Lib.hid (V1.out.below hbb)
 replace V2 := Lib.hid (V2.out.below hbb)
 replace BX5 := Lib.hid (BX5.out.old hbb)
 clear hbb hb hrun
 have hal := Below.refl w48.heap.size w48
 refine (s50 (some ⟨qa, 0, none⟩) (some ⟨w47.heap.size + 1, 0, none⟩) 14 qc cz48 ([1065353216, 0, 0, 0, 1065353216, 1065353216, 1065353216] ++ List.replicate 7 0) ([1065353216, 0, 0, 0, 1065353216, 1065353216, 1065353216] ++ List.replicate 7 0) w48 Q1.out hz rfl rfl (by decide) (by kernel_rfl)).mono ?_
 rintro e w49 ⟨rfl, hb⟩
 have hbb := hal.trans (hb.mono hal.size)
 replace HA := Lib.hid (HA.out.old hbb)
 replace HB := Lib.hid (HB.out.trans (hbb.mono HB.out.size))
 replace Q1 := Lib.hid (Q1.out.below hbb)
 replace O1 := Lib.hid (O1.out.below hbb)
 replace R1 := Lib.hid (R1.out.below hbb)
 replace U1 := Lib.hid (U1.out.below hbb)
 replace V1 := Lib.hid (V1.out.below hbb)
 replace V2 := Lib.hid (V2.out.below hbb)
 replace BX5 := Lib.hid (BX5.out.old hbb)
 clear hal hb hbb hz
 clear Q1
 go_wp2_with fail
 have hal : Below w49.heap.size w49 (w49.alloc (.cells #[.string ⟨#[68, 65]⟩] 9)) := ((Below.refl _ _).alloc (Nat.le_refl _) _)
 refine (s72 (some ⟨oa, 0, none⟩) (some ⟨w49.heap.size, 0, none⟩) 1 oc 1 [⟨#[68, 65]⟩] (w49.alloc (.cells #[.string ⟨#[68, 65]⟩] 9)) (O1.out.below hal) (Rd.row (Row.new w49 9 (strs [⟨#[68, 65]⟩]))) rfl (by decide) (by kernel_rfl)).mono ?_
 rintro e w50 ⟨rfl, hb⟩
 have hbb := hal.trans (hb.mono hal.size)
 replace HA := Lib.hid (HA.out.old hbb)
 replace HB := Lib.hid (HB.out.trans (hbb.mono HB.out.size))
 replace O1 := Lib.hid (O1.out.below hbb)
 replace R1 := Lib.hid (R1.out.below hbb)
 replace U1 := Lib.hid (U1.out.below hbb)
 replace V1 := Lib.hid (V1.out.below hbb)
 replace V2 := Lib.hid (V2.out.below hbb)
 replace BX5 := Lib.hid (BX5.out.old hbb)
 clear hal hb hbb
 clear O1
 have hSL := fun W => b_slice pa pc hpc W
 obtain ⟨S10, hCV, hS10⟩ := b_conv2 pa pc w50 R1.out
 go_wp2_with fail
 have hal : Below w50.heap.size w50 (w50.alloc (.cells #[.float .f32 1065353216, .float .f32 3204448256] 56)) := ((Below.refl _ _).alloc (Nat.le_refl _) _)
 refine (s50 (some ⟨ua, 0, none⟩) (some ⟨w50.heap.size, 0, none⟩) 2 2 2 [1065353216, 3204448256] [1065353216, 3204448256] (w50.alloc (.cells #[.float .f32 1065353216, .float .f32 3204448256] 56)) (U1.out.below hal) (Rd.row (Row.new w50 56 (flts [1065353216, 3204448256]))) rfl rfl (by decide) (by kernel_rfl)).mono ?_
 rintro e w51 ⟨rfl, hb⟩
 have hbb := hal.trans (hb.mono hal.size)
 replace HA := Lib.hid (HA.out.old hbb)
 replace HB := Lib.hid (HB.out.trans (hbb.mono HB.out.size))
 replace R1 := Lib.hid (R1.out.below hbb)
 replace U1 := Lib.hid (U1.out.below hbb)
 replace V1 := Lib.hid (V1.out.below hbb)
 replace V2 := Lib.hid (V2.out.below hbb)
 replace BX5 := Lib.hid (BX5.out.old hbb)
 clear hal hb hbb hSL hCV hS10
 clear U1 R1
 have qv0 := BX5.out.cell 0
 have qv1 := BX5.out.cell 1
 have qv2 := BX5.out.cell 2
 have qv3 := BX5.out.cell 3
 simp only [List.getElem?_cons_succ, List.getElem?_cons_zero] at qv0 qv1 qv2 qv3
 have hPS := prS_beq PS hPE
 go_wp2_with fail
 have hal := Below.refl w51.heap.size w51
 refine (b_told sA sB sc sd w51 V1.out V2.out).mono ?_
 rintro e w52 ⟨zA, zc, zB, zd, rfl, j1, j2, hb⟩
 have hbb := hal.trans (hb.mono hal.size)
 replace HA := Lib.hid (HA.out.old hbb)
 replace HB := Lib.hid (HB.out.trans (hbb.mono HB.out.size))
 replace V1 := Lib.hid (V1.out.below hbb)
 replace V2 := Lib.hid (V2.out.below hbb)
 replace BX5 := Lib.hid (BX5.out.old hbb)
 have X1 := Lib.hid (j1)
 have X2 := Lib.hid (j2)
 clear hal hb hbb j1 j2 qv0 qv1 qv2 qv3 hPS
 clear BX5 V1 V2
 go_wp2_with fail
 have hal := Below.refl w52.heap.size w52
 refine (tape_ok w52).mono ?_
 rintro e w53 ⟨tf1, tf2, rfl, j1, j2, -, -, hb⟩
 have hbb := hal.trans (hb.mono hal.size)
 replace HA := Lib.hid (HA.out.old hbb)
 replace HB := Lib.hid (HB.out.trans (hbb.mono HB.out.size))
 replace X1 := Lib.hid (X1.out.below hbb)
 replace X2 := Lib.hid (X2.out.below hbb)
 have Ttf1 := Lib.hid (j1)
 have Ttf2 := Lib.hid (j2)
 clear hal hb hbb j1 j2
 go_wp2_with fail
 have hal := Below.refl w53.heap.size w53
 refine (b_told (some ⟨tf1, 0, none⟩) (some ⟨tf2, 0, none⟩) 4 2 w53 (Rd.row Ttf1.out) (Rd.row Ttf2.out)).mono ?_
 rintro e w54 ⟨uA, uc, uB, ud, rfl, j1, j2, hb⟩
 have hbb := hal.trans (hb.mono hal.size)
 replace HA := Lib.hid (HA.out.old hbb)
 replace HB := Lib.hid (HB.out.trans (hbb.mono HB.out.size))
 replace X1 := Lib.hid (X1.out.below hbb)
 replace X2 := Lib.hid (X2.out.below hbb)
 replace Ttf1 := Lib.hid (Ttf1.out.old hbb)
 replace Ttf2 := Lib.hid (Ttf2.out.old hbb)
 have Y1 := Lib.hid (j1)
 have Y2 := Lib.hid (j2)
 clear hal hb hbb j1 j2
 go_wp2_with fail
 have hal := Below.refl w54.heap.size w54
 refine (b_sameR zA zB uA uB zc zd uc ud w54 X1.out X2.out Y1.out Y2.out).mono ?_
 rintro e w55 ⟨rfl, hb⟩
 have hbb := hal.trans (hb.mono hal.size)
 replace HA := Lib.hid (HA.out.old hbb)
 replace HB := Lib.hid (HB.out.trans (hbb.mono HB.out.size))
 replace X1 := Lib.hid (X1.out.below hbb)
 replace X2 := Lib.hid (X2.out.below hbb)
 replace Ttf1 := Lib.hid (Ttf1.out.old hbb)
 replace Ttf2 := Lib.hid (Ttf2.out.old hbb)
 replace Y1 := Lib.hid (Y1.out.below hbb)
 replace Y2 := Lib.hid (Y2.out.below hbb)
 clear hal hb hbb
 clear X1 X2 Y1 Y2 Ttf1 Ttf2
 go_wp2_with fail
 refine (b_name1 _).mono ?_
 rintro e w56 ⟨rfl, rfl⟩
 go_wp2_with fail
 refine (b_name2 _).mono ?_
 rintro e w57 ⟨rfl, rfl⟩
 go_wp2_with fail
 go_ret
 exact ⟨rfl, HB.out⟩
end Go.Proofs.YtjdniebjhilooaaGreatDoor
