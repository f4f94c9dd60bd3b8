/- New, Allow, Keys, Copy. -/
import Derived.Test.YtcainohglmgdpaaRak
import Derived.Test.YtcainohglmgdpaaRks
import Derived.Shelf.SlMaps.Clone
import Derived.Laws.CopyOwn
namespace Go.Proofs.Ytcainohglmgdpaa
open Go.RowKit Go.Maps Go.WideElems Go.WideMaps Go.WideShapes Go.Sort Go.Shelf
def kyClone_ren : Go.Shelf.Ren := ⟨fun | 5 => 28 | 7 => 40 | n => n, fun | 4 => 4 | 20 => 20 | 23 => 45 | 25 => 9 | 3 => 61 | n => n, fun | n => n⟩
theorem kyClone : Go.Proofs.SlLaysW.n5 Try.prog kyClone_ren := {
  mixed := by kernel_rfl
  f5 := ⟨Try.f28.name, by decide, Try.func28.trans (congrArg some (by kernel_rfl))⟩
  f7 := Try.func40.trans (congrArg some (by kernel_rfl))
  t4 := Try.underlying4
  a4 := Try.isAgg4
  z4 := Try.sizeOf4
  v4 := Try.zeroValue4
  t20 := Try.underlying20
  a20 := Try.isAgg20
  z20 := Try.sizeOf20
  v20 := Try.zeroValue20
  t23 := Try.underlying45
  a23 := Try.isAgg45
  z23 := Try.sizeOf45
  v23 := Try.zeroValue45 }
def RSt : RowT ByteArray := ⟨9, 50, fun x => [.string x], 1, 16, .string ⟨#[]⟩, fun _ => rfl, by decide, (by intro x u hu; simp only [List.mem_cons, List.not_mem_nil, or_false] at hu; subst hu; rfl), Try.underlying50, by kernel_rfl, rfl, by decide⟩
section
variable {w w' : World} {g m r cnt : Nat} {S : RS} {L : List Bk} {left : Lit → Bool} {F : Nat → Prop} {e : Int}
theorem clone_c (h : Mp w m L) : Calls Try.prog 28 #[.map (some m)] w fun e w' => e = .returned (.map (some w.heap.size)) ∧ Mp w' w.heap.size L ∧ Below w.heap.size w w' := by
  obtain ⟨D, h, hD⟩ := h
  exact (AnyW.maps_Clone_owns kyClone 9 Rid m _ D w h).mono fun _ _ ⟨a, b, _, d⟩ => ⟨a, ⟨D, b, hD⟩, d⟩
end
end Go.Proofs.Ytcainohglmgdpaa
