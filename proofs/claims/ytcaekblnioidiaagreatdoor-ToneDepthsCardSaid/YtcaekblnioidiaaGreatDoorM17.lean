import Derived.Test.YtcaekblnioidiaaGreatDoorM16
namespace Go.Proofs.YtcaekblnioidiaaGreatDoor
set_option linter.all false
open Go.RowKit Go.Fl
theorem toneDepths_any (Aw : World → Prop) (ho : ∀ W W', Aw W → Below W.heap.size W W' → Aw W') (haw : ∀ W, Aw W → Calls Tryz.prog 9 #[] W fun e w' => e = .returned (.bool true) ∧ Below W.heap.size W w') (a b c d x y : Int) (w : World) (hW : Aw w) :
 Calls Tryz.prog 3 #[.agg #[.int .i64 a, .int .i64 b, .int .i64 c, .int .i64 d, .int .i64 x, .int .i64 y]] w fun e w' => e = .returned (.bool true) ∧ Below w.heap.size w w' := by
 by_cases hE : sigE a b c d x y = 0
 · have hg := sig_good hE
   have k1 := hg.g2.along hg.g1; have k2 := hg.g3.along hg.g1; have k3 := hg.pos
   have b0 : Bd (c * a + d * b) := by unfold Bd; omega
   have b1 : Bd (x * a + y * b) := by unfold Bd; omega
   have b4 : Bd (c * a + d * b + (x * a + y * b)) := by unfold Bd; omega
   exact depths_law Aw ho haw a b c d x y 0 (a * a + b * b) (c * a + d * b) (x * a + y * b) (c * a + d * b + (x * a + y * b)) _ _ _ _ _ _ _ _ w hW
    (fun W => depthsT_ok a b c d x y W hE) (fun W => needleT_ok a b c d x y W hE) (fun W => sumT_ok a b c d x y W hE)
    (fun W => by have h := checkSignalR_any a b c d x y W; rw [hE] at h; exact h) (fun W => by have h := checkSignal_any a b c d x y W; rw [hE] at h; exact h)
    (fun _ W => squareR_any a b c d x y W hg.g1) (fun _ W => lowR_any a b c d x y W hg.g2 hg.g1) (fun _ W => lowest_any _ _ W b0 k3)
    (fun _ W => highR_any a b c d x y W hg.g3 hg.g1) (fun _ W => lowest_any _ _ W b1 k3) (fun _ W => needleR_any a b c d x y W hg)
    (fun _ W => totalR_any a b c d x y W hg.g1 hg.g2 hg.g3) (fun _ W => lowest_any _ _ W b4 k3) (fun h => absurd rfl h)
 · exact depths_law Aw ho haw a b c d x y (sigE a b c d x y) 0 0 0 0 0 0 0 0 0 0 0 0 w hW
    (fun W => depthsT_bad a b c d x y _ W rfl hE) (fun W => needleT_bad a b c d x y _ W rfl hE) (fun W => sumT_bad a b c d x y _ W rfl hE)
    (fun W => checkSignalR_any a b c d x y W) (fun W => checkSignal_any a b c d x y W)
    (fun h => absurd h hE) (fun h => absurd h hE) (fun h => absurd h hE) (fun h => absurd h hE) (fun h => absurd h hE) (fun h => absurd h hE) (fun h => absurd h hE) (fun h => absurd h hE)
    (fun _ => ⟨rfl, rfl, rfl, rfl, rfl, rfl, rfl, rfl⟩)
end Go.Proofs.YtcaekblnioidiaaGreatDoor
