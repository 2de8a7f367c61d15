import Derived.Lib.SlBytesConst
import Derived.ArgAppend
import Derived.Test.YtlflfieknibgmaaGreatDoorM25
namespace Go.Proofs.YtlflfieknibgmaaGreatDoor
set_option linter.all false
open Go.RowKit Go.Fl
def toB (l : List Int) : List UInt8 := l.map fun x => UInt8.ofNat x.toNat
theorem byts_toB {l : List Int} (h : ∀ x ∈ l, isByte x) : byts (toB l) = u8s l := by
  induction l with
  | nil => rfl
  | cons x l ih =>
    have hx := h x (by simp)
    unfold isByte at hx
    have e : ((UInt8.ofNat x.toNat).toNat : Int) = x := by
      rw [UInt8.toNat_ofNat']
      have : x.toNat % 256 = x.toNat := Nat.mod_eq_of_lt (by omega)
      rw [show (2 ^ 8 : Nat) = 256 from rfl, this]; omega
    have ih := ih fun y hy => h y (by simp [hy])
    simp only [byts, toB, u8s, List.map_cons] at ih ⊢
    rw [ih, e]
theorem toB_length (l : List Int) : (toB l).length = l.length := by simp [toB]
theorem hiI_byte (x : Nat) : isByte (hiI x) := by unfold isByte hiI; omega
theorem loI_byte (x : Nat) : isByte (loI x) := by unfold isByte loI; omega
theorem seal8 (key : List Int) (bs : List UInt8) : (sealL key bs).length = key.length := sealGo_length bs key 0
theorem u8s_one (l : List Int) : ∀ v ∈ u8s l, v.oneCell' = true := by simp [u8s, Value.oneCell']
theorem u8s_app (l m : List Int) : u8s (l ++ m) = u8s l ++ u8s m := by simp [u8s]
theorem u8s_length (l : List Int) : (u8s l).length = l.length := by simp [u8s]
theorem add0 (g j : Nat) : (⟨g, 0, none⟩ : Addr).add j = ⟨g, j, none⟩ := by
  by_cases hj : j = 0
  · subst hj; simp [Addr.add]
  · simp [Addr.add, hj]

end Go.Proofs.YtlflfieknibgmaaGreatDoor
