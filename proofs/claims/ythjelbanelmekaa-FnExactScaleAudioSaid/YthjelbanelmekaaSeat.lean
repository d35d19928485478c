/-
  Facts on the program of this seat that every row asks for: what the head of the translation says. The head's text is given as the numbers of its letters. No condition.
-/
import Derived.Test.YthjelbanelmekaaRows
import Derived.JoinedOf
import Derived.KernelRfl
namespace Go.Proofs.Ythjelbanelmekaa.Seat
open Go

theorem make_of {P : Program} {R : List (List Char)} (h : behindMainWord (wordsSigns P.initOrder.toList) = "cut".toList :: R) : P.make = some .cut := by
  unfold Program.make
  rw [h]
  rfl
theorem lifts_of {P : Program} {R : List (List Char)} (h : behindMainWord (wordsSigns P.initOrder.toList) = "cut".toList :: R) : P.headLifts = [] := by
  unfold Program.headLifts
  rw [h]
  rfl
theorem final_of {P : Program} {R : List (List Char)} (h : behindMainWord (wordsSigns P.initOrder.toList) = "cut".toList :: R) : P.liftsFinal = false := by
  unfold Program.liftsFinal
  rw [lifts_of h, h]
  rfl
theorem enter_of {P : Program} {R : List (List Char)} (h : behindMainWord (wordsSigns P.initOrder.toList) = "cut".toList :: R) (h1 : P.laysLater = false) (h2 : P.bearsReflect = false) (h3 : P.doorFits [] = true) : P.mayEnter = true := by
  unfold Program.mayEnter
  rw [h, h1, h2]
  have e : stripLifts liftWords ("cut".toList :: R) = ([], "cut".toList :: R) := rfl
  simp only [e, h3]
  rfl

def signs : List Nat := [
  104, 97, 114, 110, 101, 115, 115, 32, 102, 52, 49, 48, 49, 48, 99, 52, 57, 53, 54, 48, 48, 55, 101, 55, 53, 53, 99, 49, 53, 49, 98, 97, 56, 55, 102, 102, 99, 99, 53, 101,
  51, 98, 100, 55, 55, 100, 54, 56, 53, 98, 98, 101, 102, 51, 51, 97, 50, 50, 53, 51, 51, 97, 54, 51, 48, 98, 98, 56, 98, 102, 97, 97, 32, 99, 117, 116, 32, 97, 116, 32,
  108, 111, 111, 112, 46, 101, 120, 97, 109, 112, 108, 101, 47, 108, 111, 115, 115, 108, 101, 115, 115, 97, 117, 100, 105, 111, 47, 108, 97, 119, 115, 46, 70, 110, 80, 101, 97, 107, 79, 102,
  32, 108, 111, 111, 112, 46, 101, 120, 97, 109, 112, 108, 101, 47, 108, 111, 115, 115, 108, 101, 115, 115, 97, 117, 100, 105, 111, 47, 108, 97, 119, 115, 46, 70, 110, 76, 111, 117, 100, 110,
  101, 115, 115, 87, 105, 110, 100, 111, 119, 32, 108, 111, 111, 112, 46, 101, 120, 97, 109, 112, 108, 101, 47, 108, 111, 115, 115, 108, 101, 115, 115, 97, 117, 100, 105, 111, 47, 108, 97, 119,
  115, 46, 70, 110, 83, 99, 97, 108, 101, 65, 117, 100, 105, 111, 32, 108, 111, 111, 112, 46, 101, 120, 97, 109, 112, 108, 101, 47, 108, 111, 115, 115, 108, 101, 115, 115, 97, 117, 100, 105,
  111, 47, 108, 97, 119, 115, 46, 70, 110, 83, 99, 97, 108, 101, 65, 117, 100, 105, 111, 84, 119, 105, 99, 101, 32, 108, 111, 111, 112, 46, 101, 120, 97, 109, 112, 108, 101, 47, 108, 111,
  115, 115, 108, 101, 115, 115, 97, 117, 100, 105, 111, 47, 108, 97, 119, 115, 46, 70, 110, 83, 99, 97, 108, 101, 65, 117, 100, 105, 111, 79, 114, 100, 101, 114, 32, 108, 111, 111, 112, 46,
  101, 120, 97, 109, 112, 108, 101, 47, 108, 111, 115, 115, 108, 101, 115, 115, 97, 117, 100, 105, 111, 47, 108, 97, 119, 115, 46, 70, 110, 83, 99, 97, 108, 101, 65, 117, 100, 105, 111, 83,
  105, 108, 101, 110, 99, 101, 32, 108, 111, 111, 112, 46, 101, 120, 97, 109, 112, 108, 101, 47, 108, 111, 115, 115, 108, 101, 115, 115, 97, 117, 100, 105, 111, 47, 108, 97, 119, 115, 46, 70,
  110, 71, 97, 105, 110, 70, 111, 114, 32, 108, 111, 111, 112, 46, 101, 120, 97, 109, 112, 108, 101, 47, 108, 111, 115, 115, 108, 101, 115, 115, 97, 117, 100, 105, 111, 47, 108, 97, 119, 115,
  46, 70, 110, 71, 97, 105, 110, 70, 111, 114, 77, 111, 114, 101, 32, 108, 111, 111, 112, 46, 101, 120, 97, 109, 112, 108, 101, 47, 108, 111, 115, 115, 108, 101, 115, 115, 97, 117, 100, 105,
  111, 47, 108, 97, 119, 115, 46, 70, 110, 69, 120, 97, 99, 116, 80, 101, 97, 107, 79, 102, 32, 108, 111, 111, 112, 46, 101, 120, 97, 109, 112, 108, 101, 47, 108, 111, 115, 115, 108, 101,
  115, 115, 97, 117, 100, 105, 111, 47, 108, 97, 119, 115, 46, 70, 110, 69, 120, 97, 99, 116, 76, 111, 117, 100, 110, 101, 115, 115, 79, 102, 32, 108, 111, 111, 112, 46, 101, 120, 97, 109,
  112, 108, 101, 47, 108, 111, 115, 115, 108, 101, 115, 115, 97, 117, 100, 105, 111, 47, 108, 97, 119, 115, 46, 70, 110, 69, 120, 97, 99, 116, 83, 99, 97, 108, 101, 65, 117, 100, 105, 111,
  32, 108, 111, 111, 112, 46, 101, 120, 97, 109, 112, 108, 101, 47, 108, 111, 115, 115, 108, 101, 115, 115, 97, 117, 100, 105, 111, 47, 108, 97, 119, 115, 46, 70, 110, 69, 120, 97, 99, 116,
  71, 97, 105, 110, 70, 111, 114]
theorem order_is : Try.prog.initOrder = String.ofList (signs.map Char.ofNat) := by kernel_rfl
theorem order_list : Try.prog.initOrder.toList = signs.map Char.ofNat := by rw [order_is, String.toList_ofList]
theorem words : ∃ R, behindMainWord (wordsSigns Try.prog.initOrder.toList) = "cut".toList :: R := by
  rw [order_list]
  exact ⟨(behindMainWord (wordsSigns (signs.map Char.ofNat))).tail, by kernel_rfl⟩
theorem lays : Try.prog.laysLater = false := by kernel_rfl
theorem refl : Try.prog.bearsReflect = false := by kernel_rfl
theorem door : Try.prog.doorFits [] = true := by kernel_rfl
theorem make : Try.prog.make = some .cut := by obtain ⟨R, h⟩ := words; exact make_of h
theorem final : Try.prog.liftsFinal = false := by obtain ⟨R, h⟩ := words; exact final_of h
theorem enter : Try.prog.mayEnter = true := by obtain ⟨R, h⟩ := words; exact enter_of h lays refl door
theorem and_mk {a b : Bool} (h : a = true) (k : b = true) : (a && b) = true := by rw [h, k]; rfl

end Go.Proofs.Ythjelbanelmekaa.Seat
