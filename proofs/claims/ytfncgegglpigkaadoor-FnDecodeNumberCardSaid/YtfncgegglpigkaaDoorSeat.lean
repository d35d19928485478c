/-
  Facts on the program of this seat that every row asks for: what the head of the translation says. The head's text is given as the numbers of its letters. No condition.
-/
import Derived.Test.YtfncgegglpigkaaDoorRows
import Derived.JoinedOf
import Derived.KernelRfl
namespace Go.Proofs.YtfncgegglpigkaaDoor.Seat
open Go

theorem make_of {P : Program} {R : List (List Char)} (h : behindMainWord (wordsSigns P.initOrder.toList) = "cut".toList :: R) : P.make = some .cut := by
  unfold Program.make
  rw [h]
  rfl
theorem lifts_of {P : Program} {R : List (List Char)} (h : behindMainWord (wordsSigns P.initOrder.toList) = "cut".toList :: R) : P.headLifts = [] := by
  unfold Program.headLifts
  rw [h]
  rfl
theorem final_of {P : Program} {R : List (List Char)} (h : behindMainWord (wordsSigns P.initOrder.toList) = "cut".toList :: R) : P.liftsFinal = false := by
  unfold Program.liftsFinal
  rw [lifts_of h, h]
  rfl
theorem enter_of {P : Program} {R : List (List Char)} (h : behindMainWord (wordsSigns P.initOrder.toList) = "cut".toList :: R) (h1 : P.laysLater = false) (h2 : P.bearsReflect = false) (h3 : P.doorFits [] = true) : P.mayEnter = true := by
  unfold Program.mayEnter
  rw [h, h1, h2]
  have e : stripLifts liftWords ("cut".toList :: R) = ([], "cut".toList :: R) := rfl
  simp only [e, h3]
  rfl

def signs : List Nat := [
  104, 97, 114, 110, 101, 115, 115, 32, 98, 101, 101, 101, 48, 101, 97, 50, 51, 55, 56, 51, 49, 49, 101, 97, 54, 56, 55, 57, 102, 53, 56, 50, 53, 98, 54, 50, 55, 55, 53, 53,
  98, 97, 54, 100, 101, 97, 55, 101, 97, 56, 56, 99, 55, 48, 100, 50, 97, 51, 100, 99, 101, 98, 99, 50, 98, 49, 97, 50, 98, 100, 99, 51, 32, 99, 117, 116, 32, 97, 116, 32,
  108, 111, 111, 112, 46, 101, 120, 97, 109, 112, 108, 101, 47, 108, 111, 115, 115, 108, 101, 115, 115, 97, 117, 100, 105, 111, 47, 108, 97, 119, 115, 46, 70, 110, 69, 110, 99, 111, 100, 101,
  78, 117, 109, 98, 101, 114, 32, 108, 111, 111, 112, 46, 101, 120, 97, 109, 112, 108, 101, 47, 108, 111, 115, 115, 108, 101, 115, 115, 97, 117, 100, 105, 111, 47, 108, 97, 119, 115, 46, 70,
  110, 68, 101, 99, 111, 100, 101, 78, 117, 109, 98, 101, 114]
theorem order_is : Tryd.prog.initOrder = String.ofList (signs.map Char.ofNat) := by kernel_rfl
theorem order_list : Tryd.prog.initOrder.toList = signs.map Char.ofNat := by rw [order_is, String.toList_ofList]
theorem words : ∃ R, behindMainWord (wordsSigns Tryd.prog.initOrder.toList) = "cut".toList :: R := by
  rw [order_list]
  exact ⟨(behindMainWord (wordsSigns (signs.map Char.ofNat))).tail, by kernel_rfl⟩
theorem lays : Tryd.prog.laysLater = false := by kernel_rfl
theorem refl : Tryd.prog.bearsReflect = false := by kernel_rfl
theorem door : Tryd.prog.doorFits [] = true := by kernel_rfl
theorem make : Tryd.prog.make = some .cut := by obtain ⟨R, h⟩ := words; exact make_of h
theorem final : Tryd.prog.liftsFinal = false := by obtain ⟨R, h⟩ := words; exact final_of h
theorem enter : Tryd.prog.mayEnter = true := by obtain ⟨R, h⟩ := words; exact enter_of h lays refl door
theorem and_mk {a b : Bool} (h : a = true) (k : b = true) : (a && b) = true := by rw [h, k]; rfl

end Go.Proofs.YtfncgegglpigkaaDoor.Seat
