/- The law CacheKeeps walked. -/
import Derived.Test.YtbhoofihnmmmfaaKcv
namespace Go.Proofs.Ytbhoofihnmmmfaa
open Go.RowKit Go.Maps Go.WideElems Go.WideShapes
theorem wk_kk {j : Nat} (h : j ≤ 1000) : WK (kk j) := ⟨⟨by simp only [kk]; omega, by simp only [kk]; omega⟩, ⟨by simp only [kk]; omega, by simp only [kk]; omega⟩, ⟨by simp only [kk]; omega, by simp only [kk]; omega⟩⟩
section
variable {w0 w w' : World} {G : Nat → Prop} {c n : Nat} {s : CS}
theorem find_km {z i : Nat} (h : At w0 w G c n s) (hq : Kq z i s) (hz : 2 ≤ z) (hn : n ≤ 1000000) : Calls Try.prog 18 #[.pointer (some ⟨c, 0, none⟩), .int .i64 (-1), .int .i64 (-1), .int .i64 (-1)] w fun e w' => e = .returned (.tuple #[.agg #[.int .u32 7, .int .u32 0, .int .u32 0, .bool false, .int .i64 0], .bool true]) ∧ At w0 w' G c (n + 1) (findC s km) := by
  have h2 := find_at km h hn (wk_lit (by decide))
  obtain ⟨_, _, _, e1, e2⟩ := hq.find hz
  rw [e1, e2] at h2
  exact h2.mono fun e w' ⟨he, h, _⟩ => ⟨he, h⟩
theorem ins_km (h : At w0 w G c n s) (hn : n ≤ 1000000) : Calls Try.prog 19 #[.pointer (some ⟨c, 0, none⟩), .int .i64 (-1), .int .i64 (-1), .int .i64 (-1), .agg #[.int .u32 7, .int .u32 0, .int .u32 0, .bool false, .int .i64 0]] w fun e w' => (∃ v, e = .returned v) ∧ At w0 w' G c (n + 1) (insC s km d7) := by
  exact (insert_at km d7 h hn (wk_lit (by decide))).mono fun e w' ⟨he, h, _⟩ => ⟨⟨_, he⟩, h⟩
theorem ins_kk (i : Nat) (h : At w0 w G c n s) (hn : n ≤ 1000000) (hi : i ≤ 1000) : Calls Try.prog 19 #[.pointer (some ⟨c, 0, none⟩), .int .i64 i, .int .i64 (2 * i), .int .i64 (3 * i), .agg #[.int .u32 i, .int .u32 0, .int .u32 0, .bool false, .int .i64 0]] w fun e w' => (∃ v, e = .returned v) ∧ At w0 w' G c (n + 1) (insC s (kk i) (dd i)) := by
  exact (insert_at (kk i) (dd i) h hn (wk_kk hi)).mono fun e w' ⟨he, h, _⟩ => ⟨⟨_, he⟩, h⟩
theorem find_kk {z m : Nat} (j : Nat) (h : At w0 w G c n s) (hq : Kq z m s) (hz : 2 ≤ z) (hj : j < m) (hm : m ≤ 1000) (hn : n ≤ 1000000) (d : Value) (hd : d = if m < j + z then valD (dd j) else valD Dc.z) : Calls Try.prog 18 #[.pointer (some ⟨c, 0, none⟩), .int .i64 j, .int .i64 (2 * j), .int .i64 (3 * j)] w fun e w' => e = .returned (.tuple #[d, .bool (decide (m < j + z))]) ∧ At w0 w' G c (n + 1) (findC s (kk j)) := by
  have h2 := find_at (kk j) h hn (wk_kk (by omega))
  have e := Qn_look z m j hz hj
  rw [← hq.L] at e
  have e1 : gotC s (kk j) = if m < j + z then dd j else Dc.z := by
    unfold gotC
    rw [e]
    split <;> rfl
  have e2 : isC s (kk j) = decide (m < j + z) := by
    unfold isC
    rw [e]
    split <;> simp_all
  rw [e1, e2] at h2
  have e3 : valD (if m < j + z then dd j else Dc.z) = d := by rw [hd]; split <;> rfl
  rw [e3] at h2
  exact h2.mono fun e w' ⟨he, h, _⟩ => ⟨he, h⟩
end
set_option maxRecDepth 100000 in
set_option maxHeartbeats 16000000 in
theorem keeps_c (size : Int) (kv : Int) (hkv : 0 ≤ kv ∧ kv ≤ 255) (w : World) :
    Calls Try.prog 7 #[.int .i64 size, .int .u8 kv] w fun e w' => e = .returned (.bool true) ∧ Below w.heap.size w w' := by
  by_cases h1 : size < 2
  · go_enter Try.func7, Try.ntmps7
    go_wp2_with (go_at_call 10; refine (awake_c _).mono ?_; rintro e w8 ⟨rfl, hb8⟩)
    go_ret
    exact ⟨rfl, hb8⟩
  · by_cases h2 : 20 < size
    · go_enter Try.func7, Try.ntmps7
      go_wp2_with (go_at_call 10; refine (awake_c _).mono ?_; rintro e w8 ⟨rfl, hb8⟩)
      go_ret
      exact ⟨rfl, hb8⟩
    · obtain ⟨z, rfl⟩ : ∃ z : Nat, size = z := ⟨size.toNat, by omega⟩
      have hz : 2 ≤ z := by omega
      have hz2 : z ≤ 20 := by omega
      obtain ⟨n, hn⟩ : ∃ n : Nat, kv % 61 = n := ⟨(kv % 61).toNat, by omega⟩
      have hn60 : n ≤ 60 := by omega
      have ht : kv.tmod 61 = n := by rw [Int.tmod_eq_emod_of_nonneg hkv.1, hn]
      have hk0 := hkv.1
      have hk1 := hkv.2
      have hq := fun (c : Nat) (u : World) => eqPN c u
      clear hkv hn
      go_enter Try.func7, Try.ntmps7
      go_upto_region 4 with (first | (go_at_call 11; refine (new_at z _ (by omega) (by omega)).mono ?_; rintro e w1 ⟨c, rfl, h1⟩; have H1 := Lib.hid h1; clear h1) | fail)
      have hq2 := hq c
      clear hq
      go_upto_region 7 with (first | (go_at_call 19; refine (ins_km H1.out (by decide)).mono ?_; rintro e w2 ⟨⟨v2, rfl⟩, h2⟩; have H2 := Lib.hid h2; clear h2) | fail)
      clear hq2 H1
      go_wp2_with fail
      clear ht hk0 hk1
      go_loopw [7] (fun vi wr => ∃ (i : Nat) (s : CS), i ≤ n ∧ vi = .int .i64 i ∧ Hid (Kq z i s) ∧ Hid (At w wr (fun _ => False) c (2 * i + 1) s)) (fun vi _ => n - (intOf vi).toNat)
      case atStart => exact ⟨0, _, Nat.zero_le _, rfl, Lib.hid (Kq.start z), H2⟩
      case round =>
        clear H2
        obtain ⟨i, s, hi, rfl, HQ, HA⟩ := hrel
        by_cases hlt : i < n
        · have hltI : (i : Int) < (n : Int) := by omega
          have hi60 : (i : Int) ≤ 60 := by omega
          go_upto_region 12 with (first | (go_at_call 18; refine (find_km HA.out HQ.out hz (by omega)).mono ?_; rintro e w3 ⟨rfl, h3⟩; have H3 := Lib.hid h3; clear h3) | fail)
          have HB4 : Hid (Below w3.heap.size w3 (w3.alloc (.cells #[.int .u32 7, .int .u32 0, .int .u32 0, .bool false, .int .i64 0] 42))) := Lib.hid ((Below.refl _ _).alloc (Nat.le_refl _) _)
          have HD4 := Lib.hid (Blk.new w3 42 #[.int .u32 7, .int .u32 0, .int .u32 0, .bool false, .int .i64 0])
          have H4 := Lib.hid (H3.out.keep HB4.out)
          generalize w3.alloc (.cells #[.int .u32 7, .int .u32 0, .int .u32 0, .bool false, .int .i64 0] 42) = W4 at *
          generalize w3.heap.size = gd at *
          obtain ⟨d0, d1, d2, d3, d4, _⟩ := HD4.out.cells5
          go_upto_region 14 with fail
          clear d0 d1 d2 d3 d4
          have HK : Hid (Kq z (i + 1) (insC (findC s km) (kk i) (dd i))) := Lib.hid (by
            obtain ⟨e1, e2, e3, _⟩ := HQ.out.find hz
            exact Kq.ins e1 e2 e3 hz)
          have HI := Lib.hid (ins_kk i H4.out (by omega) (by omega))
          generalize findC s km = s3 at *
          go_wp2_with (first | (go_at_call 19; refine HI.out.mono ?_; rintro e w5 ⟨⟨v5, rfl⟩, h5⟩; have H5 := Lib.hid h5; clear h5) | fail)
          exact ⟨⟨i + 1, _, by omega, by go_num, HK, Lib.hid (by have := H5.out; rwa [show 2 * i + 1 + 1 + 1 = 2 * (i + 1) + 1 by omega] at this)⟩, by simp [intOf]; omega⟩
        · obtain rfl : i = n := by omega
          go_wp2_with fail
          generalize wr = wA at *
          have hn60I : (i : Int) ≤ 60 := by omega
          have hzI : (z : Int) ≤ 20 := by omega
          go_loopw [10] (fun vj wr => ∃ j : Nat, j ≤ i ∧ vj = .int .i64 j ∧ Hid (Below wA.heap.size wA wr)) (fun vj _ => i - (intOf vj).toNat)
          case atStart => exact ⟨0, Nat.zero_le _, rfl, Lib.hid (Below.refl _ _)⟩
          case round =>
            obtain ⟨j, hj, rfl, HW⟩ := hrel
            have HA2 := Lib.hid (HA.out.keep HW.out)
            by_cases hlj : j < i
            · have hljI : (j : Int) < (i : Int) := by omega
              have hCP := Lib.hid (copy_at HA2.out)
              obtain ⟨dv, hdv⟩ : ∃ dv, dv = (if i < j + z then dd j else Dc.z) := ⟨_, rfl⟩
              have hFD : Hid (∀ u k, At wr u (fun _ => False) k (2 * i + 1) s → Calls Try.prog 18 #[.pointer (some ⟨k, 0, none⟩), .int .i64 j, .int .i64 (2 * j), .int .i64 (3 * j)] u fun e w' => e = .returned (.tuple #[.agg #[.int .u32 dv.al, .int .u32 dv.aa, .int .u32 dv.ad, .bool dv.pm, .int .i64 dv.sq], .bool (decide (i < j + z))]) ∧ Below wr.heap.size wr w') := Lib.hid (fun u k hu => (find_kk j hu HQ.out hz hlj (by omega) (by omega) (valD dv) (by rw [hdv]; split <;> rfl)).mono fun e w' ⟨he, h⟩ => ⟨he, h.b⟩)
              have HDV := Lib.hid hdv
              clear hdv
              go_upto_region 19 with (first
                | (go_at_call 16; refine hCP.out.mono ?_; rintro e w5 ⟨k, rfl, h5, _⟩; have H5 := Lib.hid h5; clear h5)
                | (go_at_call 18; refine (hFD.out _ _ H5.out).mono ?_; rintro e w6 ⟨rfl, h6⟩; have H6 := Lib.hid h6; clear h6)
                | fail)
              have HB7 : Hid (Below w6.heap.size w6 (w6.alloc (.cells #[.int .u32 dv.al, .int .u32 dv.aa, .int .u32 dv.ad, .bool dv.pm, .int .i64 dv.sq] 42))) := Lib.hid ((Below.refl _ _).alloc (Nat.le_refl _) _)
              have HD7 := Lib.hid (Blk.new w6 42 #[.int .u32 dv.al, .int .u32 dv.aa, .int .u32 dv.ad, .bool dv.pm, .int .i64 dv.sq])
              have HW7 : Hid (Below wA.heap.size wA (w6.alloc (.cells #[.int .u32 dv.al, .int .u32 dv.aa, .int .u32 dv.ad, .bool dv.pm, .int .i64 dv.sq] 42))) := Lib.hid ((HW.out.trans (H6.out.mono HW.out.size)).trans (HB7.out.mono (Nat.le_trans HW.out.size H6.out.size)))
              generalize w6.alloc (.cells #[.int .u32 dv.al, .int .u32 dv.aa, .int .u32 dv.ad, .bool dv.pm, .int .i64 dv.sq] 42) = W7 at *
              generalize w6.heap.size = gd at *
              obtain ⟨d0, d1, d2, d3, d4, _⟩ := HD7.out.cells5
              clear hCP hFD H5 HA2
              by_cases hb : i < j + z
              · have hbI : (i : Int) - (z : Int) < (j : Int) := by omega
                have hal : dv.al = (j : Int) := by rw [HDV.out, if_pos hb]; rfl
                have hdb : decide (i < j + z) = true := by simpa using hb
                rw [hal] at d0
                rw [hdb]
                clear hb hdb
                go_wp2_with fail
                exact ⟨⟨j + 1, by omega, by go_num, HW7⟩, by simp [intOf]; omega⟩
              · have hbI : ¬ (i : Int) - (z : Int) < (j : Int) := by omega
                have hdb : decide (i < j + z) = false := by simpa using hb
                rw [hdb]
                clear hb hdb
                go_wp2_with fail
                exact ⟨⟨j + 1, by omega, by go_num, HW7⟩, by simp [intOf]; omega⟩
            · obtain rfl : j = i := by omega
              have hLn := len_at HA2.out
              have hql := Qn_len z j hz
              rw [← HQ.out.L] at hql
              rw [hql] at hLn
              have HLN := Lib.hid hLn
              clear hLn hql
              go_wp2_with (first
                | (go_at_call 23; refine HLN.out.mono ?_; rintro e w7 ⟨rfl, rfl⟩)
                | (go_at_call 10; refine (awake_c _).mono ?_; rintro e w8 ⟨rfl, hb8⟩))
              all_goals
                go_ret
                exact ⟨rfl, HA2.out.b.trans (hb8.mono HA2.out.b.size)⟩
end Go.Proofs.Ytbhoofihnmmmfaa
