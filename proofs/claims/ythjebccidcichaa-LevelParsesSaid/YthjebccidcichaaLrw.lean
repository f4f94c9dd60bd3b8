/- The reference's Read. -/
import Derived.Test.YthjebccidcichaaLrv
import Derived.Test.YthjebccidcichaaLvw
namespace Go.Proofs.Ythjebccidcichaa
open Go.RowKit
/-- what Read gives: whether there is a range, and, if there is one, which -/
def RdOut (S : ByteArray) (w : World) (e : Ending) (w' : World) : Prop :=
  ∃ (n1 n2 : ByteArray) (v1 v2 : Value) (L1 L2 : List Sp) (ok : Bool), e = .returned (.tuple #[.agg #[.string n1, v1, .string n2, v2], .bool ok]) ∧ Spans w' v1 L1 ∧ Spans w' v2 L2 ∧ Below w.heap.size w w' ∧
    (ok = false → rfRg S.data.toList = none) ∧ (ok = true → ∃ r, rfRg S.data.toList = some r ∧ n1 = mk r.1.1 ∧ L1 = r.1.2.map mkS ∧ n2 = mk r.2.1 ∧ L2 = r.2.2.map mkS)
set_option maxRecDepth 100000 in
set_option maxHeartbeats 16000000 in
theorem rread_c (S : ByteArray) (w : World) (hs : S.size ≤ 1000000) :
    Calls Try.prog 49 #[.string S] w (RdOut S w) := by
  have HL := Lib.hid (fun j W hj => rlev_c S j W hs hj)
  have HL0 : Hid (∀ W, Calls Try.prog 62 #[.string S, .int .i64 0] W (RLvOut S 0 W)) := Lib.hid fun W => rlev_c S 0 W hs (Nat.zero_le _)
  have hB := Blk.new w 52 #[.string ⟨#[]⟩, .slice none 0 0, .string ⟨#[]⟩, .slice none 0 0]
  have hW : Kp w (w.alloc (.cells #[.string ⟨#[]⟩, .slice none 0 0, .string ⟨#[]⟩, .slice none 0 0] 52)) := Kp.rfl'.alloc _
  go_enter Try.func49, Try.ntmps49
  go_wp2_with fail
  refine (HL0.out _).mono ?_
  rintro e w2 ⟨sn, v, k, ok, L0, rfl, hk, hS, hb2, hno, hyes⟩
  obtain ⟨ao, cap, rfl, _⟩ := id hS
  rw [List.drop_zero] at hno hyes
  have hbb : Below w2.heap.size w2 (w2.alloc (.cells #[.string sn, .slice ao L0.length cap] 50)) := (Below.refl _ _).alloc (Nat.le_refl _) _
  have hC := Kp.step (Kp.step hW hb2) hbb
  have q2 := (hB.keep hb2).keep hbb
  have q3 := Blk.new w2 50 #[.string sn, .slice ao L0.length cap]
  have hS2 := hS.keep hbb
  obtain ⟨z0, z1, z2, z3, z4, z5, z6, z7⟩ := q2.cells4
  obtain ⟨y0, y1⟩ := q3.box2
  have HQ2 := Lib.hid q2
  have HQ3 := Lib.hid q3
  have HS := Lib.hid hS2
  have HNO := Lib.hid hno
  have HYES := Lib.hid hyes
  clear hB hW hb2 hbb q2 q3 hS hS2 hno hyes HL0
  cases ok
  · have HE : Hid (rfRg S.data.toList = none) := Lib.hid (by unfold rfRg; rw [HNO.out rfl])
    clear HNO HYES
    go_wp2_with fail
    obtain ⟨r0, r1, r2, r3⟩ := (HQ2.out.set4 (.string sn) (.slice ao L0.length cap) (.string ⟨#[]⟩) (.slice none 0 0)).box4
    exact bodyPost_ret (v := .tuple #[.agg #[.string sn, .slice ao L0.length cap, .string ⟨#[]⟩, .slice none 0 0], .bool false]) (by simp [results, Try.results49, go_sem, r0, r1, r2, r3]) rfl ⟨_, _, _, _, _, [], false, rfl, HS.out.set4 HQ2.out _ _ _ _, Spans.nil, below_set4 hC (Nat.le_refl _) _ _ _ _, fun _ => HE.out, fun h => by cases h⟩
  · obtain ⟨lo, hlo, rfl, hL0⟩ := HYES.out rfl
    have HL0 := Lib.hid hL0
    clear HNO HYES hL0
    by_cases hend : k = S.size
    · have hb0 : ((k : Int) == (S.size : Int)) = true := by simp; omega
      have HE : Hid (rfRg S.data.toList = some (lo, ([], []))) := Lib.hid (by
        unfold rfRg
        rw [hlo, hend, drop_all])
      clear hlo hend
      go_wp2_with fail
      obtain ⟨r0, r1, r2, r3⟩ := (HQ2.out.set4 (.string (mk lo.1)) (.slice ao L0.length cap) (.string ⟨#[]⟩) (.slice none 0 0)).box4
      exact bodyPost_ret (v := .tuple #[.agg #[.string (mk lo.1), .slice ao L0.length cap, .string ⟨#[]⟩, .slice none 0 0], .bool true]) (by simp [results, Try.results49, go_sem, r0, r1, r2, r3]) rfl ⟨_, _, _, _, _, [], true, rfl, HS.out.set4 HQ2.out _ _ _ _, Spans.nil, below_set4 hC (Nat.le_refl _) _ _ _ _, (fun h => by cases h), fun _ => ⟨_, HE.out, rfl, HL0.out, rfl, rfl⟩⟩
    · have hb0 : ((k : Int) == (S.size : Int)) = false := by simp; omega
      have hkt : k < S.size := by omega
      have hkt' : (k : Int) < (S.size : Int) := by omega
      obtain ⟨c, hdr, hby, _⟩ := byI_at hkt
      have hbg := byI_get hkt
      by_cases h45 : c = 45
      · have hb1 : (byI S k == 45) = true := by rw [hby, h45]; rfl
        have hb1n : (byI S k != 45) = false := by rw [hby, h45]; rfl
        rw [← hbg] at hb1 hb1n
        have HL2 : Hid (∀ W, Calls Try.prog 62 #[.string S, .int .i64 ((k : Int) + 1)] W (RLvOut S (k + 1) W)) := Lib.hid fun W => HL.out (k + 1) W (by omega)
        have HLO := Lib.hid hlo
        have HDR := Lib.hid hdr
        have H45 := Lib.hid h45
        clear hby hbg h45 hdr hlo hend
        go_wp2_with fail
        refine (HL2.out _).mono ?_
        rintro e w4 ⟨sn2, v2, k2, ok2, L2, rfl, hk2, hS4, hb4, hno, hyes⟩
        obtain ⟨ao2, cap2, rfl, _⟩ := id hS4
        have hbb : Below w4.heap.size w4 (w4.alloc (.cells #[.string sn2, .slice ao2 L2.length cap2] 50)) := (Below.refl _ _).alloc (Nat.le_refl _) _
        replace hC := Kp.step (Kp.step hC hb4) hbb
        have HQ2 := Lib.hid ((HQ2.out.keep hb4).keep hbb)
        have HQ3 := Lib.hid ((HQ3.out.keep hb4).keep hbb)
        have HQ4 := Lib.hid (Blk.new w4 50 #[.string sn2, .slice ao2 L2.length cap2])
        have HS := Lib.hid ((HS.out.keep hb4).keep hbb)
        have HS4 := Lib.hid (hS4.keep hbb)
        have HNO := Lib.hid hno
        have HYES := Lib.hid hyes
        clear z0 z1 z2 z3 z4 z5 z6 z7 y0 y1 hb4 hbb hS4 hno hyes
        obtain ⟨z0, z1, z2, z3, z4, z5, z6, z7⟩ := HQ2.out.cells4
        obtain ⟨y0, y1⟩ := HQ3.out.box2
        obtain ⟨x0, x1⟩ := HQ4.out.box2
        have RB := Lib.hid (HQ2.out.set4 (.string (mk lo.1)) (.slice ao L0.length cap) (.string sn2) (.slice ao2 L2.length cap2)).box4
        have hS5 := Lib.hid (HS.out.set4 HQ2.out (.string (mk lo.1)) (.slice ao L0.length cap) (.string sn2) (.slice ao2 L2.length cap2))
        have hS6 := Lib.hid (HS4.out.set4 HQ2.out (.string (mk lo.1)) (.slice ao L0.length cap) (.string sn2) (.slice ao2 L2.length cap2))
        have hBB := Lib.hid (below_set4 hC (Nat.le_refl _) (.string (mk lo.1)) (.slice ao L0.length cap) (.string sn2) (.slice ao2 L2.length cap2))
        cases ok2
        · have HE : Hid (rfRg S.data.toList = none) := Lib.hid (by
            unfold rfRg
            rw [HLO.out, HDR.out]
            simp only [H45.out, if_true]
            rw [HNO.out rfl])
          clear HNO HYES
          go_wp2_with fail
          obtain ⟨r0, r1, r2, r3⟩ := RB.out
          exact bodyPost_ret (v := .tuple #[.agg #[.string (mk lo.1), .slice ao L0.length cap, .string sn2, .slice ao2 L2.length cap2], .bool false]) (by simp [results, Try.results49, go_sem, r0, r1, r2, r3]) rfl ⟨_, _, _, _, _, _, false, rfl, hS5.out, hS6.out, hBB.out, fun _ => HE.out, fun h => by cases h⟩
        · obtain ⟨hi, hhi, rfl, hL2⟩ := HYES.out rfl
          have HL2' := Lib.hid hL2
          clear hL2
          by_cases hend : k2 = S.size
          · have hb2 : ((k2 : Int) == (S.size : Int)) = true := by simp; omega
            have HE : Hid (rfRg S.data.toList = some (lo, hi)) := Lib.hid (by
              unfold rfRg
              rw [HLO.out, HDR.out]
              simp only [H45.out, if_true]
              rw [hhi, hend, drop_all])
            clear HNO HYES hhi hend
            go_wp2_with fail
            obtain ⟨r0, r1, r2, r3⟩ := RB.out
            exact bodyPost_ret (v := .tuple #[.agg #[.string (mk lo.1), .slice ao L0.length cap, .string (mk hi.1), .slice ao2 L2.length cap2], .bool true]) (by simp [results, Try.results49, go_sem, r0, r1, r2, r3]) rfl ⟨_, _, _, _, _, _, true, rfl, hS5.out, hS6.out, hBB.out, (fun h => by cases h), fun _ => ⟨_, HE.out, rfl, HL0.out, rfl, HL2'.out⟩⟩
          · have hb2 : ((k2 : Int) == (S.size : Int)) = false := by simp; omega
            have HE : Hid (rfRg S.data.toList = none) := Lib.hid (by
              unfold rfRg
              rw [HLO.out, HDR.out]
              simp only [H45.out, if_true]
              rw [hhi]
              obtain ⟨c2, hdr2, _, _⟩ := byI_at (S := S) (i := k2) (by omega)
              rw [hdr2])
            clear HNO HYES hhi hend
            go_wp2_with fail
            obtain ⟨r0, r1, r2, r3⟩ := RB.out
            exact bodyPost_ret (v := .tuple #[.agg #[.string (mk lo.1), .slice ao L0.length cap, .string (mk hi.1), .slice ao2 L2.length cap2], .bool false]) (by simp [results, Try.results49, go_sem, r0, r1, r2, r3]) rfl ⟨_, _, _, _, _, _, false, rfl, hS5.out, hS6.out, hBB.out, fun _ => HE.out, fun h => by cases h⟩
      · have h45n : byI S k ≠ 45 := fun h => h45 (UInt8.toNat_inj.1 (by rw [hby] at h; have : ((45 : UInt8).toNat : Int) = 45 := rfl; omega))
        have hb1 : (byI S k == 45) = false := by simpa using h45n
        have hb1n : (byI S k != 45) = true := by simpa using h45n
        rw [← hbg] at hb1 hb1n
        have HE : Hid (rfRg S.data.toList = none) := Lib.hid (by
          unfold rfRg
          rw [hlo, hdr]
          simp only [h45, if_false])
        clear hby hbg h45 h45n hdr hlo hend
        go_wp2_with fail
        obtain ⟨r0, r1, r2, r3⟩ := (HQ2.out.set4 (.string ⟨#[]⟩) (.slice none 0 0) (.string ⟨#[]⟩) (.slice none 0 0)).box4
        exact bodyPost_ret (v := .tuple #[.agg #[.string ⟨#[]⟩, .slice none 0 0, .string ⟨#[]⟩, .slice none 0 0], .bool false]) (by simp [results, Try.results49, go_sem, r0, r1, r2, r3]) rfl ⟨_, _, _, _, [], [], false, rfl, Spans.nil, Spans.nil, below_set4 hC (Nat.le_refl _) _ _ _ _, fun _ => HE.out, fun h => by cases h⟩
end Go.Proofs.Ythjebccidcichaa
