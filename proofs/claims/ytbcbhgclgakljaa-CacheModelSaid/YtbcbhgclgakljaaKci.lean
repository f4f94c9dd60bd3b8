/- Orders: a copy. -/
import Derived.Test.YtbcbhgclgakljaaKch
namespace Go.Proofs.Ytbcbhgclgakljaa
open Go.RowKit Go.Maps Go.WideElems Go.WideShapes
theorem pb_zero {S : List Lk} {r : Nat} : pb S r 0 = r := rfl
theorem drop_at {S : List Lk} {i : Nat} (h : i < S.length) : S.drop i = S[i] :: S.drop (i + 1) := (List.getElem_cons_drop h).symm
theorem drop_fresh {S : List Lk} {i : Nat} (h : i < S.length) (hn : (keysK (S.map Lk.en)).Nodup) : hasK ((S.drop (i + 1)).map Lk.en) S[i].k = false := by
  cases e : hasK ((S.drop (i + 1)).map Lk.en) S[i].k
  · rfl
  · have h1 := hasK_iff.1 e
    rw [keysK_map] at h1 hn
    have h2 : (S.drop i).map Lk.k = S[i].k :: (S.drop (i + 1)).map Lk.k := by rw [drop_at h, List.map_cons]
    have h3 : ((S.drop i).map Lk.k).Nodup := hn.sublist ((List.drop_sublist i S).map _)
    rw [h2] at h3
    exact absurd h1 (List.nodup_cons.1 h3).1
section
variable {w w' w1 w2 w3 w4 w5 : World} {o r m : Nat} {S S1 S2 T : List Lk} {k : K3} {d : Dc} {x : Lk} {F : Nat → Prop} {D : DataW Value}
end
end Go.Proofs.Ytbcbhgclgakljaa
