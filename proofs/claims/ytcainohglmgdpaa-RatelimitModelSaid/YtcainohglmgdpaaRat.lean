/- How many events of one key pass, as plain mathematics: the law RatelimitBound. -/
import Derived.Test.YtcainohglmgdpaaRar
namespace Go.Proofs.Ytcainohglmgdpaa
/-- the limiter of one key, after events: T are the times of those that were permitted -/
structure Inv (b i : Int) (k : ByteArray) (S : RS) (T : List Int) : Prop where
  sb : S.b = b
  si : S.i = i
  st : (S.L = [] ∧ T = []) ∨ ∃ x, S.L = [x] ∧ x.k = k ∧ ∀ (m : Nat) u, T[m]? = some u → ((T.length : Int) - m) * i + x.l * i ≤ b * i + (x.c - u) + i - 1
  le : ∀ u ∈ T, u ≤ S.t
  pairs : ∀ (m n : Nat) u v, T[m]? = some u → T[n]? = some v → m ≤ n → ((n : Int) - m + 1) * i ≤ b * i + (v - u) + i - 1 ∧ u ≤ v
theorem Inv.first (b i n : Int) (k : ByteArray) : Inv b i k (firstR b i n) [] := ⟨rfl, rfl, .inl ⟨rfl, rfl⟩, fun u h => (by cases h), fun m n u v h => by simp at h⟩
section
variable {b i : Int} {k : ByteArray} {S : RS} {T : List Int} {e now : Int}
/-- filling keeps what is known of a bucket -/
theorem pot_fill {A u t : Int} {x : Bk} (hi : 1 ≤ i) (hct : x.c ≤ t) (h : A * i + x.l * i ≤ b * i + (x.c - u) + i - 1) : A * i + (fillB b i x t).l * i ≤ b * i + ((fillB b i x t).c - u) + i - 1 := by
  have hd := div_facts (a := t - x.c) (i := i) (by omega) hi
  unfold fillB
  split
  · rename_i hb
    show A * i + b * i ≤ b * i + (t - u) + i - 1
    have h1 := Int.mul_le_mul_of_nonneg_right hb (show 0 ≤ i by omega)
    rw [Int.add_mul] at h1
    omega
  · show A * i + (x.l + (t - x.c).tdiv i) * i ≤ b * i + (x.c + (t - x.c).tdiv i * i - u) + i - 1
    rw [Int.add_mul]
    omega
theorem fill_late {t : Int} {x : Bk} (hi : 1 ≤ i) (hct : x.c ≤ t) : t - i + 1 ≤ (fillB b i x t).c ∧ (fillB b i x t).c ≤ t := by
  unfold fillB
  split
  · show t - i + 1 ≤ t ∧ t ≤ t
    omega
  · show t - i + 1 ≤ x.c + (t - x.c).tdiv i * i ∧ x.c + (t - x.c).tdiv i * i ≤ t
    have h1 := Int.mul_tdiv_add_tmod (t - x.c) i
    have h2 := Int.tmod_nonneg i (show 0 ≤ t - x.c by omega)
    have h3 := Int.tmod_lt_of_pos (t - x.c) (show 0 < i by omega)
    rw [Int.mul_comm] at h1
    omega
/-- one that is permitted, of a bucket y that was filled at t -/
theorem Inv.add {S' : RS} {y : Bk} {t : Int} (h : Inv b i k S T) (hS' : S'.b = b ∧ S'.i = i ∧ S'.t = t) (ht : S.t ≤ t) (hL : S'.L = [{ y with l := y.l - 1, d := 0 }]) (hk : y.k = k) (hi : 1 ≤ i) (hl : 1 ≤ y.l) (hb : y.l ≤ b) (hc : t - i + 1 ≤ y.c ∧ y.c ≤ t)
    (hp : ∀ (m : Nat) u, T[m]? = some u → ((T.length : Int) - m) * i + y.l * i ≤ b * i + (y.c - u) + i - 1) : Inv b i k S' (T ++ [t]) := by
  have hi0 : (0 : Int) ≤ i := by omega
  have hbi := Int.mul_le_mul_of_nonneg_right hb hi0
  have hli := Int.mul_le_mul_of_nonneg_right hl hi0
  rw [Int.one_mul] at hli
  have hy : (y.l - 1) * i = y.l * i - i := by rw [Int.sub_mul, Int.one_mul]
  have key : ∀ (m : Nat) u, (T ++ [t])[m]? = some u → (((T ++ [t]).length : Int) - m) * i + (y.l - 1) * i ≤ b * i + (y.c - u) + i - 1 ∧ u ≤ t := by
    intro m u hu
    rw [List.length_append, hy]
    rcases Nat.lt_or_ge m T.length with hm | hm
    · rw [List.getElem?_append_left hm] at hu
      have h1 := hp m u hu
      have h2 := h.le u (List.mem_of_getElem? hu)
      have e1 : (((T.length + [t].length : Nat) : Int) - m) * i = ((T.length : Int) - m) * i + i := by
        rw [show (((T.length + [t].length : Nat) : Int) - m) = ((T.length : Int) - m) + 1 by simp; omega, Int.add_mul, Int.one_mul]
      omega
    · rw [List.getElem?_append_right hm] at hu
      have hm2 : m - T.length < 1 := by have := (List.getElem?_eq_some_iff.1 hu).1; simpa using this
      obtain rfl : m = T.length := by omega
      have : u = t := by simpa using hu.symm
      subst this
      have e1 : (((T.length + [u].length : Nat) : Int) - (T.length : Nat)) * i = i := by
        rw [show (((T.length + [u].length : Nat) : Int) - (T.length : Nat)) = 1 by simp only [List.length_singleton]; omega, Int.one_mul]
      omega
  refine ⟨hS'.1, hS'.2.1, .inr ⟨_, hL, hk, fun m u hu => (key m u hu).1⟩, ?_, ?_⟩
  · intro u hu
    rw [hS'.2.2]
    rcases List.mem_append.1 hu with hu | hu
    · have := h.le u hu; omega
    · simp at hu; omega
  · intro m n u v hu hv hmn
    rcases Nat.lt_or_ge n T.length with hn | hn
    · rw [List.getElem?_append_left (by omega)] at hu
      rw [List.getElem?_append_left hn] at hv
      exact h.pairs m n u v hu hv hmn
    · have h1 := key m u hu
      rw [List.getElem?_append_right hn] at hv
      have hn2 : n - T.length < 1 := by have := (List.getElem?_eq_some_iff.1 hv).1; simpa using this
      obtain rfl : n = T.length := by omega
      have : v = t := by simpa using hv.symm
      subst this
      refine ⟨?_, h1.2⟩
      have e1 : ((T.length : Nat) : Int) - m + 1 = (((T ++ [v]).length : Nat) : Int) - m := by simp; omega
      rw [e1]
      have := h1.1
      omega
theorem Inv.yes (h : Inv b i k S T) (hS : S.Ok e) (hl : leftR S k (timeR S now) ≠ 0) : Inv b i k (allowR S k now).1 (T ++ [timeR S now]) := by
  have ht := timeR_ok hS now
  have hA := atR_ok hS ht.1 ht.2
  have hy := allow_yes (s := k) hS hl
  have hi := hS.i0
  have hb := hS.b0
  obtain ⟨sb, si, st, le, prs⟩ := id h
  rw [si] at hi
  rw [sb] at hb
  rw [hy.2.1]
  rcases st with ⟨hL, rfl⟩ | ⟨x, hL, hk, hp⟩
  · have hf : findB (atR S (timeR S now)).L k = none := by show findB S.L k = none; rw [hL]; rfl
    have hm : makeR (atR S (timeR S now)) = atR S (timeR S now) := by
      unfold makeR
      rw [if_pos]
      show ((S.L.length : Nat) : Int) < S.n
      rw [hL]
      have := hS.n0
      show (0 : Int) < S.n
      omega
    have e1 : permitR (atR S (timeR S now)) k = takeR (atR S (timeR S now)) ⟨k, S.b, 0, 0⟩ := by
      unfold permitR
      rw [hf]
      show takeR (makeR _) _ = _
      rw [hm]; rfl
    rw [e1]
    have e2 : fillB S.b S.i ⟨k, S.b, 0, 0⟩ (timeR S now) = ⟨k, S.b, timeR S now, 0⟩ := fill_new hA k
    refine h.add (y := ⟨k, S.b, timeR S now, 0⟩) ⟨sb, si, rfl⟩ ht.1 ?_ rfl hi (by show 1 ≤ S.b; omega) (by show S.b ≤ b; omega) (by show timeR S now - i + 1 ≤ timeR S now ∧ timeR S now ≤ timeR S now; omega) (fun m u hu => by simp at hu)
    show putB { fillB S.b S.i ⟨k, S.b, 0, 0⟩ (timeR S now) with l := (fillB S.b S.i ⟨k, S.b, 0, 0⟩ (timeR S now)).l - 1, d := 0 } S.L = _
    rw [e2, hL]; rfl
  · have hf : findB (atR S (timeR S now)).L k = some x := by
      show findB S.L k = some x
      rw [hL]
      unfold findB
      simp [hk]
    have e1 : permitR (atR S (timeR S now)) k = takeR (atR S (timeR S now)) x := by unfold permitR; rw [hf]
    rw [e1]
    have hx : x.Ok S.b S.t e := hS.bk x (by rw [hL]; simp)
    have hct : x.c ≤ timeR S now := Int.le_trans hx.c1 ht.1
    have F := fill_ok hx hS.b0 hS.i0 ht.1
    have hl2 : (fillB S.b S.i x (timeR S now)).l ≠ 0 := by
      unfold leftR at hl
      have hf' : findB S.L k = some x := hf
      rw [hf'] at hl
      exact hl
    have hlate := fill_late (b := S.b) (i := i) (x := x) hi hct
    have hpf := fun (m : Nat) u hu => pot_fill (b := b) (t := timeR S now) hi hct (hp m u hu)
    rw [sb, si] at F hl2
    rw [sb] at hlate
    have f0 := F.l0
    have f1 := F.l1
    refine h.add (y := fillB b i x (timeR S now)) ⟨sb, si, rfl⟩ ht.1 ?_ (by rw [fill_k]; exact hk) hi (by omega) f1 hlate hpf
    show putB { fillB S.b S.i x (timeR S now) with l := (fillB S.b S.i x (timeR S now)).l - 1, d := 0 } S.L = _
    rw [sb, si, hL]
    unfold putB
    rw [show ({ fillB b i x (timeR S now) with l := (fillB b i x (timeR S now)).l - 1, d := 0 } : Bk).k = x.k from fill_k, if_neg (ltK_irrefl _), if_pos rfl]
    simp only [fill_k]
theorem Inv.no (h : Inv b i k S T) (hS : S.Ok e) (hl : leftR S k (timeR S now) = 0) : Inv b i k (allowR S k now).1 T := by
  have ht := timeR_ok hS now
  have hn := allow_no (S := S) (s := k) hl
  obtain ⟨sb, si, st, le, prs⟩ := id h
  rw [hn.2.1]
  have hle : ∀ u ∈ T, u ≤ timeR S now := fun u hu => Int.le_trans (le u hu) ht.1
  have hd := drop_same (S := atR S (timeR S now)) (s := k)
  refine ⟨hd.2.2.2.1.trans sb, hd.2.2.2.2.1.trans si, ?_, fun u hu => by rw [hd.1]; exact hle u hu, prs⟩
  rcases st with ⟨hL, rfl⟩ | ⟨x, hL, hk, hp⟩
  · left
    refine ⟨?_, rfl⟩
    unfold dropR
    have hf : findB (atR S (timeR S now)).L k = none := by show findB S.L k = none; rw [hL]; rfl
    rw [hf]
    exact hL
  · right
    have hf : findB (atR S (timeR S now)).L k = some x := by
      show findB S.L k = some x
      rw [hL]
      unfold findB
      simp [hk]
    refine ⟨{ x with d := x.d + 1 }, ?_, hk, hp⟩
    unfold dropR
    rw [hf]
    show putB _ S.L = _
    rw [hL]
    unfold putB
    rw [show ({ x with d := x.d + 1 } : Bk).k = x.k from rfl, if_neg (ltK_irrefl _), if_pos rfl]
/-- what the law asks of two times -/
theorem Inv.bound (h : Inv b i k S T) (hi : 1 ≤ i) {m n : Nat} {u v : Int} (hu : T[m]? = some u) (hv : T[n]? = some v) (hmn : m ≤ n) : ¬ b + (v - u).tdiv i + 1 < (n : Int) - m + 1 ∧ 0 ≤ v - u := by
  have h1 := h.pairs m n u v hu hv hmn
  refine ⟨fun hlt => ?_, by omega⟩
  have hd := Int.mul_tdiv_add_tmod (v - u) i
  have h3 := Int.tmod_lt_of_pos (v - u) (show 0 < i by omega)
  rw [Int.mul_comm] at hd
  have h4 := Int.mul_le_mul_of_nonneg_right (show b + (v - u).tdiv i + 2 ≤ (n : Int) - m + 1 by omega) (show 0 ≤ i by omega)
  rw [Int.add_mul, Int.add_mul] at h4
  have h5 := h1.1
  omega
end
end Go.Proofs.Ytcainohglmgdpaa
