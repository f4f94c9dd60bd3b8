/- The examples of the chapter: what the readers and the writer give at them (plain mathematics). -/
import Derived.Test.YthjebccidcichaaLvw
namespace Go.Proofs.Ythjebccidcichaa
open Go.RowKit
def exS : List ByteArray := [⟨#[115, 48]⟩, ⟨#[115, 49]⟩]
def exC : List ByteArray := [⟨#[99, 48]⟩, ⟨#[99, 49]⟩, ⟨#[99, 50]⟩, ⟨#[99, 51]⟩, ⟨#[99, 52]⟩, ⟨#[99, 53]⟩]
theorem ex_proper : proper exS exC = true := by decide +kernel
theorem ex_srcE : srcE exS exC 0 2 1 23 = 0 := by decide +kernel
theorem ex_txt : txtX exS exC 0 2 1 23 = ⟨#[115, 48, 58, 99, 49, 45, 115, 49, 58, 99, 48, 46, 99, 50, 44, 99, 52]⟩ := by decide +kernel
def exR1 : LvB × LvB := (([115, 49], [([99, 51], [99, 52]), ([99, 48], []), ([99, 49], [])]), ([], []))
def exR2 : LvB × LvB := (([115, 48], [([99, 50], [99, 49])]), ([], []))
theorem ex_rd1 : rdRg [115, 49, 58, 99, 51, 46, 99, 52, 44, 99, 48, 44, 99, 49] = some exR1 :=
  rdRg_iff.2 ⟨by decide +kernel, ⟨by decide +kernel, fun x hx => by
    simp only [exR1, List.mem_cons, List.not_mem_nil, or_false] at hx
    rcases hx with rfl | rfl | rfl
    · exact ⟨by decide +kernel, .inr (by decide +kernel)⟩
    · exact ⟨by decide +kernel, .inl rfl⟩
    · exact ⟨by decide +kernel, .inl rfl⟩⟩, .inl rfl⟩
theorem ex_rd2 : rdRg [115, 48, 58, 99, 50, 46, 99, 49] = some exR2 :=
  rdRg_iff.2 ⟨by decide +kernel, ⟨by decide +kernel, fun x hx => by
    simp only [exR2, List.mem_cons, List.not_mem_nil, or_false] at hx
    subst hx
    exact ⟨by decide +kernel, .inr (by decide +kernel)⟩⟩, .inl rfl⟩
theorem ex_rd3 : rdRg [115, 48, 58] = none := by
  have h1 : cutL 45 [115, 48, 58] = ([115, 48, 58], [], false) := by decide +kernel
  have h2 : cutL 58 [115, 48, 58] = ([115, 48], [], true) := by decide +kernel
  have h3 : rdLv [115, 48, 58] = none := by
    unfold rdLv
    rw [h2]
    have h4 : rdLs [] = none := rdLs_bad (by decide +kernel)
    simp only [if_true]
    rw [h4]
    decide +kernel
  unfold rdRg
  rw [h1]
  simp only
  rw [h3]
def Rg1 : Rg := ⟨⟨1, 27⟩, ⟨1, 27⟩⟩
theorem ex_p1 : (prsX exS exC [115, 49, 58, 99, 51, 46, 99, 52, 44, 99, 48, 44, 99, 49]).1 = 0 ∧ rgV (prsX exS exC [115, 49, 58, 99, 51, 46, 99, 52, 44, 99, 48, 44, 99, 49]).2 = .agg #[.int .i64 1, .int .u64 27, .int .i64 1, .int .u64 27] := by
  unfold prsX
  rw [if_neg (by rw [ex_proper]; decide), ex_rd1]
  exact ⟨by kernel_rfl, by kernel_rfl⟩
theorem ex_p2 : (prsX exS exC [115, 48, 58, 99, 50, 46, 99, 49]).1 = 18 ∧ rgV (prsX exS exC [115, 48, 58, 99, 50, 46, 99, 49]).2 = .agg #[.int .i64 0, .int .u64 0, .int .i64 0, .int .u64 0] := by
  unfold prsX
  rw [if_neg (by rw [ex_proper]; decide), ex_rd2]
  exact ⟨by kernel_rfl, by kernel_rfl⟩
theorem ex_p3 : (prsX exS exC [115, 48, 58]).1 = 9 ∧ rgV (prsX exS exC [115, 48, 58]).2 = .agg #[.int .i64 0, .int .u64 0, .int .i64 0, .int .u64 0] := by
  unfold prsX
  rw [if_neg (by rw [ex_proper]; decide), ex_rd3]
  exact ⟨rfl, rfl⟩
theorem ex_few : Few exS ∧ Few exC := by
  refine ⟨⟨by decide, ?_⟩, ⟨by decide, ?_⟩⟩
  · intro s hs
    simp only [exS, List.mem_cons, List.not_mem_nil, or_false] at hs
    rcases hs with rfl | rfl <;> decide
  · intro s hs
    simp only [exC, List.mem_cons, List.not_mem_nil, or_false] at hs
    rcases hs with rfl | rfl | rfl | rfl | rfl | rfl <;> decide
end Go.Proofs.Ythjebccidcichaa
