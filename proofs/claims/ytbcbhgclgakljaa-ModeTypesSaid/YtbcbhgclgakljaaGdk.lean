/- types of the law: the same types on both sides. -/
import Derived.Test.YtbcbhgclgakljaaGdj
namespace Go.Proofs.Ytbcbhgclgakljaa
open Go.RowKit Go.Maps
theorem RowZ.toRd {w : World} {B : Nat} {v : Value} {T : List Tz} (h : RowZ w B v T) : RdZ w v T := by
  rcases h.rdz with h | ⟨rfl, a, c, h⟩
  · exact h
  · exact ⟨a, c, h, Nat.zero_le _, fun hn => absurd rfl hn⟩
theorem PZ.same {f : Nat → Tz → Bool} {T A B : List Tz} (h1 : PZ f T A) (h2 : PZ f T B) : A = B := List.ext_getElem? fun j => by rw [h1 j, h2 j]
set_option maxRecDepth 100000 in
set_option maxHeartbeats 16000000 in
theorem types_c {w : World} (v1 v2 : Value) (T : List Tz) (h1 : RdZ w v1 T) (h2 : RdZ w v2 T) (hl : T.length ≤ 1000) :
    Calls Try.prog 24 #[v1, v2] w fun e w' => e = .returned (.bool true) ∧ Below w.heap.size w w' := by
  obtain ⟨n, hn⟩ : ∃ n, T.length = n := ⟨_, rfl⟩
  obtain ⟨ao, cap, rfl, _, _⟩ := id h1
  obtain ⟨bo, cbp, rfl, _, _⟩ := id h2
  have HN := Lib.hid hn
  have H1 := Lib.hid h1
  have H2 := Lib.hid h2
  have hcI : (n : Int) ≤ (cap : Int) := by have := h1.cap.2; omega
  have hdI : (n : Int) ≤ (cbp : Int) := by have := h2.cap.2; omega
  rw [hn] at hl H1 H2 ⊢
  clear h1 h2 hn
  go_enter Try.func24, Try.ntmps24
  go_wp2_with fail
  go_loopw [13] (fun vi wr => ∃ i : Nat, i ≤ n ∧ vi = .int .i64 i ∧ Hid (Below w.heap.size w wr)) (fun vi _ => n - (intOf vi).toNat)
  case atStart => exact ⟨0, Nat.zero_le _, rfl, Lib.hid (Below.refl _ _)⟩
  case round =>
    obtain ⟨i, hi, rfl, HW⟩ := hrel
    by_cases hlt : i < n
    · have hx : T[i]? = some (T[i]'(by rw [HN.out]; exact hlt)) := List.getElem?_eq_getElem _
      generalize T[i]'(by rw [HN.out]; exact hlt) = x at hx
      obtain ⟨g, o, rfl⟩ := H1.out.some (by rintro rfl; simp at hx)
      obtain ⟨g2, o2, rfl⟩ := H2.out.some (by rintro rfl; simp at hx)
      have hltI : (i : Int) < (n : Int) := by omega
      obtain ⟨xa, xc, y0, y1, y2⟩ := (H1.out.below HW.out).at hx
      obtain ⟨za, zc, z0, z1, z2⟩ := (H2.out.below HW.out).at hx
      have HX : Hid (∀ u, Kp wr u → (u.cell? ⟨g, o + i * 3, none⟩ = some (.string x.n) ∧ u.cell? ⟨g, o + i * 3 + 1, none⟩ = some (.slice xa x.an xc) ∧ u.cell? ⟨g, o + i * 3 + 2, none⟩ = some (.bool x.pm)) ∧ u.cell? ⟨g2, o2 + i * 3, none⟩ = some (.string x.n) ∧ u.cell? ⟨g2, o2 + i * 3 + 1, none⟩ = some (.slice za x.an zc) ∧ u.cell? ⟨g2, o2 + i * 3 + 2, none⟩ = some (.bool x.pm)) := Lib.hid (fun u hu => by
        have hk : ∀ (q : Addr) (v : Value), wr.cell? q = some v → u.cell? q = some v := fun q v hq => by rw [(show Below wr.heap.size wr u from hu).cell (World.block_lt_of_cell? wr q hq)]; exact hq
        exact ⟨⟨hk _ _ y0, hk _ _ y1, hk _ _ y2⟩, hk _ _ z0, hk _ _ z1, hk _ _ z2⟩)
      clear y0 y1 y2 z0 z1 z2 hx
      generalize x.n = xn at *
      generalize x.pm = xp at *
      generalize x.an = xl at *
      go_upto_region 6 with fail
      refine wp_region_kp (by kernel_rfl) (by kernel_rfl) ?_
      repeat (first
        | go_big_quiet_skip
        | (go_big_quiet_want
           first
             | (go_big_quiet_op
                first
                  | go_big_quiet_on
                  | (apply Exists.intro
                     refine ⟨fun w1 hC => ?_, ?_⟩
                     · first
                         | (obtain ⟨⟨a0, a1, a2⟩, b0, b1, b2⟩ := HX.out w1 hC; go_simp; exact ⟨rfl, rfl⟩)
                         | (obtain ⟨⟨a0, a1, a2⟩, b0, b1, b2⟩ := HX.out w1 hC; go_simp; exact rfl)
                         | ((go_simp; simp; exact rfl))
                         | exact rfl
                         | (go_simp; exact ⟨rfl, rfl⟩)
                     go_big_quiet_on))))
      refine wpQuiet_nil ?_
      intro W1 hC1
      have HW1 : Hid (Below w.heap.size w W1) := Lib.hid (HW.out.trans (Below.mono hC1 HW.out.size))
      clear hC1
      go_wp2_with fail
      exact ⟨⟨i + 1, by omega, by go_num, HW1⟩, by simp [intOf]; omega⟩
    · obtain rfl : i = n := by omega
      go_wp2_with fail
      go_ret
      exact ⟨rfl, HW.out⟩
end Go.Proofs.Ytbcbhgclgakljaa
