/-
  Facts on the program of this seat that every row asks for: what the head of the translation says. The head's text is given as the numbers of its letters. No condition.
-/
import Derived.Test.YtncbgofcimghnaaRows
import Derived.JoinedOf
import Derived.KernelRfl
namespace Go.Proofs.Ytncbgofcimghnaa.Seat
open Go

theorem make_of {P : Program} {R : List (List Char)} (h : behindMainWord (wordsSigns P.initOrder.toList) = "cut".toList :: R) : P.make = some .cut := by
  unfold Program.make
  rw [h]
  rfl
theorem lifts_of {P : Program} {R : List (List Char)} (h : behindMainWord (wordsSigns P.initOrder.toList) = "cut".toList :: R) : P.headLifts = [] := by
  unfold Program.headLifts
  rw [h]
  rfl
theorem final_of {P : Program} {R : List (List Char)} (h : behindMainWord (wordsSigns P.initOrder.toList) = "cut".toList :: R) : P.liftsFinal = false := by
  unfold Program.liftsFinal
  rw [lifts_of h, h]
  rfl
theorem enter_of {P : Program} {R : List (List Char)} (h : behindMainWord (wordsSigns P.initOrder.toList) = "cut".toList :: R) (h1 : P.laysLater = false) (h2 : P.bearsReflect = false) (h3 : P.doorFits [] = true) : P.mayEnter = true := by
  unfold Program.mayEnter
  rw [h, h1, h2]
  have e : stripLifts liftWords ("cut".toList :: R) = ([], "cut".toList :: R) := rfl
  simp only [e, h3]
  rfl

def signs : List Nat := [
  104, 97, 114, 110, 101, 115, 115, 32, 52, 101, 100, 100, 55, 97, 50, 50, 99, 99, 51, 48, 99, 54, 102, 98, 57, 101, 98, 57, 56, 54, 99, 54, 57, 102, 100, 49, 100, 99, 101, 51,
  98, 101, 55, 51, 50, 48, 100, 102, 56, 50, 54, 54, 50, 48, 99, 101, 99, 52, 99, 100, 56, 48, 98, 53, 48, 55, 100, 98, 55, 56, 48, 53, 32, 99, 117, 116, 32, 97, 116, 32,
  108, 111, 111, 112, 46, 101, 120, 97, 109, 112, 108, 101, 47, 108, 111, 115, 115, 108, 101, 115, 115, 97, 117, 100, 105, 111, 47, 108, 97, 119, 115, 46, 70, 110, 67, 117, 116, 65, 117, 100,
  105, 111, 32, 108, 111, 111, 112, 46, 101, 120, 97, 109, 112, 108, 101, 47, 108, 111, 115, 115, 108, 101, 115, 115, 97, 117, 100, 105, 111, 47, 108, 97, 119, 115, 46, 70, 110, 74, 111, 105,
  110, 65, 117, 100, 105, 111, 32, 108, 111, 111, 112, 46, 101, 120, 97, 109, 112, 108, 101, 47, 108, 111, 115, 115, 108, 101, 115, 115, 97, 117, 100, 105, 111, 47, 108, 97, 119, 115, 46, 70,
  110, 70, 97, 100, 101, 65, 117, 100, 105, 111, 32, 108, 111, 111, 112, 46, 101, 120, 97, 109, 112, 108, 101, 47, 108, 111, 115, 115, 108, 101, 115, 115, 97, 117, 100, 105, 111, 47, 108, 97,
  119, 115, 46, 70, 110, 82, 101, 118, 101, 114, 115, 101, 65, 117, 100, 105, 111, 32, 108, 111, 111, 112, 46, 101, 120, 97, 109, 112, 108, 101, 47, 108, 111, 115, 115, 108, 101, 115, 115, 97,
  117, 100, 105, 111, 47, 108, 97, 119, 115, 46, 70, 110, 82, 101, 118, 101, 114, 115, 101, 74, 111, 105, 110, 32, 108, 111, 111, 112, 46, 101, 120, 97, 109, 112, 108, 101, 47, 108, 111, 115,
  115, 108, 101, 115, 115, 97, 117, 100, 105, 111, 47, 108, 97, 119, 115, 46, 70, 110, 67, 117, 116, 65, 117, 100, 105, 111, 84, 119, 105, 99, 101, 32, 108, 111, 111, 112, 46, 101, 120, 97,
  109, 112, 108, 101, 47, 108, 111, 115, 115, 108, 101, 115, 115, 97, 117, 100, 105, 111, 47, 108, 97, 119, 115, 46, 70, 110, 70, 97, 100, 101, 65, 117, 100, 105, 111, 78, 111, 110, 101, 32,
  108, 111, 111, 112, 46, 101, 120, 97, 109, 112, 108, 101, 47, 108, 111, 115, 115, 108, 101, 115, 115, 97, 117, 100, 105, 111, 47, 108, 97, 119, 115, 46, 70, 110, 80, 101, 97, 107, 79, 102,
  74, 111, 105, 110, 32, 108, 111, 111, 112, 46, 101, 120, 97, 109, 112, 108, 101, 47, 108, 111, 115, 115, 108, 101, 115, 115, 97, 117, 100, 105, 111, 47, 108, 97, 119, 115, 46, 70, 110, 69,
  120, 97, 99, 116, 67, 117, 116, 65, 117, 100, 105, 111, 32, 108, 111, 111, 112, 46, 101, 120, 97, 109, 112, 108, 101, 47, 108, 111, 115, 115, 108, 101, 115, 115, 97, 117, 100, 105, 111, 47,
  108, 97, 119, 115, 46, 70, 110, 69, 120, 97, 99, 116, 74, 111, 105, 110, 65, 117, 100, 105, 111, 32, 108, 111, 111, 112, 46, 101, 120, 97, 109, 112, 108, 101, 47, 108, 111, 115, 115, 108,
  101, 115, 115, 97, 117, 100, 105, 111, 47, 108, 97, 119, 115, 46, 70, 110, 69, 120, 97, 99, 116, 70, 97, 100, 101, 65, 117, 100, 105, 111, 32, 108, 111, 111, 112, 46, 101, 120, 97, 109,
  112, 108, 101, 47, 108, 111, 115, 115, 108, 101, 115, 115, 97, 117, 100, 105, 111, 47, 108, 97, 119, 115, 46, 70, 110, 69, 120, 97, 99, 116, 82, 101, 118, 101, 114, 115, 101, 65, 117, 100,
  105, 111]
theorem order_is : Try.prog.initOrder = String.ofList (signs.map Char.ofNat) := by kernel_rfl
theorem order_list : Try.prog.initOrder.toList = signs.map Char.ofNat := by rw [order_is, String.toList_ofList]
theorem words : ∃ R, behindMainWord (wordsSigns Try.prog.initOrder.toList) = "cut".toList :: R := by
  rw [order_list]
  exact ⟨(behindMainWord (wordsSigns (signs.map Char.ofNat))).tail, by kernel_rfl⟩
theorem lays : Try.prog.laysLater = false := by kernel_rfl
theorem refl : Try.prog.bearsReflect = false := by kernel_rfl
theorem door : Try.prog.doorFits [] = true := by kernel_rfl
theorem make : Try.prog.make = some .cut := by obtain ⟨R, h⟩ := words; exact make_of h
theorem final : Try.prog.liftsFinal = false := by obtain ⟨R, h⟩ := words; exact final_of h
theorem enter : Try.prog.mayEnter = true := by obtain ⟨R, h⟩ := words; exact enter_of h lays refl door
theorem and_mk {a b : Bool} (h : a = true) (k : b = true) : (a && b) = true := by rw [h, k]; rfl

end Go.Proofs.Ytncbgofcimghnaa.Seat
