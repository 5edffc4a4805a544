/- The head of the translation, sign by sign: what it says of how it was made, without the kernel's reading a long text. -/
import Derived.Test.YtkefbmcipdiieaaRows
import Derived.WalkKit
import Derived.ProofKit
import Derived.JoinedOf
namespace Go.Proofs.Ytkefbmcipdiieaa
def headSigns : List Char := [104, 97, 114, 110, 101, 115, 115, 32, 98, 48, 48, 48, 50, 50, 51, 51, 98, 49, 102, 48, 56, 52, 100, 102, 97, 101, 52, 56, 102, 99, 100, 49, 50, 100, 101, 98, 54, 52, 102, 99, 56, 56, 101, 97, 51, 50, 99, 51, 50, 97, 55, 57, 56, 54, 49, 100, 55, 48, 54, 54, 56, 101, 56, 57, 54, 48, 50, 51, 57, 57, 51, 101, 32, 99, 117, 116, 32, 97, 116, 32, 108, 111, 111, 112, 46, 101, 120, 97, 109, 112, 108, 101, 47, 103, 48, 48, 50, 53, 52, 47, 108, 97, 119, 115, 46, 70, 110, 69, 120, 97, 99, 116, 82, 111, 117, 110, 100, 79, 75].map Char.ofNat
theorem head_text : Try.prog.initOrder = String.ofList headSigns := by kernel_rfl
theorem head_signs : Try.prog.initOrder.toList = headSigns := (congrArg String.toList head_text).trans String.toList_ofList
theorem head_words : behindMainWord (wordsSigns headSigns) = "cut".toList :: (behindMainWord (wordsSigns headSigns)).tail := by kernel_rfl
theorem head_all : behindMainWord (wordsSigns Try.prog.initOrder.toList) = "cut".toList :: (behindMainWord (wordsSigns headSigns)).tail := (congrArg (fun l => behindMainWord (wordsSigns l)) head_signs).trans head_words
theorem head_later : Try.prog.laysLater = false := by kernel_rfl
theorem head_reflect : Try.prog.bearsReflect = false := by kernel_rfl
theorem head_door : Try.prog.doorFits [] = true := by kernel_rfl
theorem strip_cut : ∀ r, stripLifts liftWords ("cut".toList :: r) = ([], "cut".toList :: r) := fun _ => by kernel_rfl
theorem cut_gc : ("cut".toList == "gc".toList) = false := by kernel_rfl
theorem cut_spec : ("cut".toList == "spec".toList) = false := by kernel_rfl
theorem cut_carried : ("cut".toList == "carried".toList) = false := by kernel_rfl
theorem enter_of {P : Program} {r : List (List Char)} (h : behindMainWord (wordsSigns P.initOrder.toList) = "cut".toList :: r) (h1 : P.laysLater = false) (h2 : P.bearsReflect = false) (h3 : P.doorFits [] = true) : P.mayEnter = true := by
  unfold Program.mayEnter
  rw [h]
  simp only [cut_gc, cut_spec, cut_carried, strip_cut, h1, h2, h3, List.head?_cons, beq_self_eq_true, Bool.or_self, Bool.false_and, Bool.not_false, Bool.or_true, Bool.and_true, List.contains_nil]
theorem lifts_of {P : Program} {r : List (List Char)} (h : behindMainWord (wordsSigns P.initOrder.toList) = "cut".toList :: r) : P.headLifts = [] := by
  unfold Program.headLifts
  rw [h]
  simp only [strip_cut]
  simp
theorem final_of {P : Program} {r : List (List Char)} (h : behindMainWord (wordsSigns P.initOrder.toList) = "cut".toList :: r) : P.liftsFinal = false := by
  unfold Program.liftsFinal
  rw [lifts_of h, h]
  simp only [List.head?_cons, Option.some_beq_some, cut_carried, Bool.false_and, List.contains_nil, Bool.or_self]
theorem make_of {P : Program} {r : List (List Char)} (h : behindMainWord (wordsSigns P.initOrder.toList) = "cut".toList :: r) : P.make = some .cut := by
  unfold Program.make
  rw [h]
  simp only [cut_gc, cut_spec, beq_self_eq_true, Bool.or_self, Bool.true_or, if_true]
  rfl
theorem head_enter : Try.prog.mayEnter = true := enter_of head_all head_later head_reflect head_door
theorem head_final : Try.prog.liftsFinal = false := final_of head_all
theorem head_make : Try.prog.make = some .cut := make_of head_all
end Go.Proofs.Ytkefbmcipdiieaa
