/- The law CacheNeverStale walked. -/
import Derived.Test.YtbhoofihnmmmfaaKcx
namespace Go.Proofs.Ytbhoofihnmmmfaa
open Go.RowKit Go.Maps Go.WideElems Go.WideShapes
/-- nothing that is stored is stale -/
def InvS (s : CS) : Prop := ∀ p ∈ s.L, s.seq ≤ p.2.sq
theorem del_sub {L : List En} {k : K3} {p : En} (h : p ∈ delK L k) : p ∈ L := (List.mem_filter.1 h).1
theorem InvS.find {s : CS} (h : InvS s) (k : K3) : InvS (findC s k) ∧ (findC s k).seq = s.seq := by
  unfold findC
  split
  · rename_i d hd
    refine ⟨fun p hp => ?_, rfl⟩
    rcases List.mem_cons.1 hp with rfl | hp
    · exact h _ (lookK_mem hd)
    · exact h p (del_sub hp)
  · exact ⟨h, rfl⟩
theorem InvS.op {s : CS} (h : InvS s) (x : Opr) : InvS (doC s x) := by
  unfold doC
  split
  · exact (h.find _).1
  · split
    · unfold insC
      split
      · exact h
      · rename_i hd
        have hd' : s.seq ≤ x.d.sq := by omega
        unfold putC
        split
        · intro p hp
          rcases List.mem_cons.1 hp with rfl | hp
          · exact hd'
          · exact h p (List.dropLast_subset _ (del_sub hp))
        · intro p hp
          rcases List.mem_cons.1 hp with rfl | hp
          · exact hd'
          · exact h p (del_sub hp)
    · unfold resC
      split
      · exact h
      · intro p hp; cases hp
theorem InvS.got {s : CS} (h : InvS s) {k : K3} (hk : isC s k = true) : s.seq ≤ (gotC s k).sq := by
  unfold isC at hk
  obtain ⟨d, hd⟩ := Option.isSome_iff_exists.1 hk
  unfold gotC
  rw [hd]
  exact h _ (lookK_mem hd)
theorem fC_below {w0 w1 w : World} {k m ic : Nat} {s s2 : CS} {d : Nat → Bool} (h : fC w0 w1 k m s s2 ic d w) : Below w0.heap.size w0 w := by
  have := h.2
  split at this
  · exact this.b
  · exact this.b
def nsV (k g o n capl b : Nat) (y : Opr) (dv : Dc) (ok : Bool) : Nat → Option Value
  | 0 => some (.pointer (some ⟨k, 0, none⟩))
  | 1 => some (.slice (some ⟨g, o, none⟩) n capl)
  | 2 => some (.int .i64 b)
  | 3 => some (.pointer (some ⟨g, o + b * 6, none⟩))
  | 4 => some (.pointer (some ⟨g, o + b * 6 + 1, none⟩))
  | 5 => some (.int .i64 y.k.a)
  | 6 => some (.slice (some ⟨g, o, none⟩) n capl)
  | 7 => some (.int .i64 b)
  | 8 => some (.pointer (some ⟨g, o + b * 6, none⟩))
  | 9 => some (.pointer (some ⟨g, o + b * 6 + 2, none⟩))
  | 10 => some (.int .i64 y.k.b)
  | 11 => some (.slice (some ⟨g, o, none⟩) n capl)
  | 12 => some (.int .i64 b)
  | 13 => some (.pointer (some ⟨g, o + b * 6, none⟩))
  | 14 => some (.pointer (some ⟨g, o + b * 6 + 3, none⟩))
  | 15 => some (.int .i64 y.k.c)
  | 16 => some (.tuple #[.agg #[.int .u32 dv.al, .int .u32 dv.aa, .int .u32 dv.ad, .bool dv.pm, .int .i64 dv.sq], .bool ok])
  | 17 => some (.tuple #[.agg #[.int .u32 dv.al, .int .u32 dv.aa, .int .u32 dv.ad, .bool dv.pm, .int .i64 dv.sq], .bool ok])
  | 18 => some (.agg #[.int .u32 dv.al, .int .u32 dv.aa, .int .u32 dv.ad, .bool dv.pm, .int .i64 dv.sq])
  | 19 => some (.bool ok)
  | 22 => some (.bool ok)
  | _ => none
set_option maxRecDepth 100000 in
set_option maxHeartbeats 32000000 in
theorem stale_c (size : Int) (l : List Opr) (vl : Value) (w : World) (hP : Rows' RO w vl l) (hW : ∀ x ∈ l, WO x) (hl : l.length ≤ maxLen) :
    Calls Try.prog 4 #[.int .i64 size, vl] w fun e w' => e = .returned (.bool true) ∧ Below w.heap.size w w' := by
  obtain ⟨aol, capl, rfl, hcl, _⟩ := id hP.form
  unfold maxLen at hl
  by_cases hout : size < 1 ∨ 20 < size ∨ 60 < l.length
  · by_cases h1 : size < 1
    · go_enter Try.func4, Try.ntmps4
      go_wp2_with (go_at_call 10; refine (awake_c _).mono ?_; rintro e w8 ⟨rfl, hb8⟩)
      go_ret
      exact ⟨rfl, hb8⟩
    · by_cases h2 : 20 < size
      · go_enter Try.func4, Try.ntmps4
        go_wp2_with (go_at_call 10; refine (awake_c _).mono ?_; rintro e w8 ⟨rfl, hb8⟩)
        go_ret
        exact ⟨rfl, hb8⟩
      · have h3 : (60 : Int) < (l.length : Int) := by omega
        go_enter Try.func4, Try.ntmps4
        go_wp2_with (go_at_call 10; refine (awake_c _).mono ?_; rintro e w8 ⟨rfl, hb8⟩)
        go_ret
        exact ⟨rfl, hb8⟩
  · have h1 : ¬ size < 1 := by omega
    have h2 : ¬ 20 < size := by omega
    have h3 : ¬ (60 : Int) < (l.length : Int) := by omega
    have hl60 : l.length ≤ 60 := by omega
    have HP := Lib.hid hP
    have HWO := Lib.hid hW
    obtain ⟨n, hn⟩ : ∃ n, l.length = n := ⟨_, rfl⟩
    have HN := Lib.hid hn
    have hq := fun (c : Nat) (u : World) => eqPN c u
    rw [hn] at hl60 h3 hcl ⊢
    clear hP hW hl hout hn
    go_enter Try.func4, Try.ntmps4
    go_upto_region 6 with (first | (go_at_call 11; refine (new_at size _ (by omega) (by omega)).mono ?_; rintro e w1 ⟨c, rfl, h1⟩; have H1 := Lib.hid h1; clear h1; have hq2 := hq c) | fail)
    go_wp2_with fail
    clear hq2
    go_loopw [6] (fun vi wr => ∃ (i : Nat) (s : CS), i ≤ n ∧ vi = .int .i64 i ∧ Hid (InvS s) ∧ Hid (At w wr (fun _ => False) c i s)) (fun vi _ => n - (intOf vi).toNat)
    case atStart => exact ⟨0, newC size, Nat.zero_le _, rfl, Lib.hid (fun p hp => by cases hp), H1⟩
    case round =>
      clear H1
      obtain ⟨i, s, hi, rfl, HI, HA⟩ := hrel
      by_cases hlt : i < n
      · have hL : l[i]? = some (l[i]'(by rw [HN.out]; exact hlt)) := List.getElem?_eq_getElem _
        have hxm : l[i]'(by rw [HN.out]; exact hlt) ∈ l := List.getElem_mem _
        generalize l[i]'(by rw [HN.out]; exact hlt) = x at hL hxm
        have hwx := HWO.out x hxm
        obtain ⟨g, o, cap', e1, _⟩ := HP.out.some6 (by rintro rfl; simp at hL)
        simp only [Value.slice.injEq] at e1
        obtain ⟨rfl, -, rfl⟩ := e1
        have hltI : (i : Int) < (n : Int) := by omega
        obtain ⟨hgw, x0, x1, x2, x3, x4, x5⟩ := (HP.out.below HA.out.b).at6 rfl hL
        have HPL := Lib.hid (play_at x HA.out (by omega) hwx)
        have HI2 := Lib.hid (HI.out.op x)
        clear hL hxm hwx
        generalize doC s x = s2 at *
        go_upto_region 10 with (first | (go_at_call 15; refine HPL.out.mono ?_; rintro e w2 ⟨rfl, h2, _⟩; have HB := Lib.hid h2; clear h2) | fail)
        clear x0 x1 x2 x3 x4 x5
        go_upto_region 11 with (first | (go_at_call 16; refine (copy_at HB.out).mono ?_; rintro e w3 ⟨k, rfl, h3, hb3⟩; have HK := Lib.hid h3; have HB3 := Lib.hid (HB.out.keep hb3); clear h3 hb3) | fail)
        have hqk := hq k
        go_upto_region 13 with (first
          | (go_at_call 17; with_reducible refine (seq_at HK.out).mono ?_; rintro e w4 ⟨rfl, hw⟩; rw [hw]; clear hw)
          | (go_at_call 17; with_reducible refine (seq_at HB3.out).mono ?_; rintro e w4 ⟨rfl, hw⟩; rw [hw]; clear hw)
          | fail)
        clear hqk
        generalize wr = wA at *
        go_wp2_with fail
        clear HPL HB3
        go_loopw [8] (fun vb wr => ∃ (b : Nat) (s' : CS), b ≤ i + 1 ∧ vb = .int .i64 b ∧ Hid (InvS s') ∧ Hid (s'.seq = s2.seq) ∧ Hid (At w2 wr (fun _ => False) k (i + 1 + b) s')) (fun vb _ => i + 1 - (intOf vb).toNat)
        case atStart => exact ⟨0, s2, Nat.zero_le _, rfl, HI2, Lib.hid rfl, HK⟩
        case round =>
          clear HK
          obtain ⟨b, s', hb, rfl, HJ, HSQ, HK⟩ := hrel
          by_cases hlb : b < i + 1
          · have hlbI : (b : Int) ≤ (i : Int) := by omega
            have hlbN : (b : Int) < (n : Int) := by omega
            have hL : l[b]? = some (l[b]'(by rw [HN.out]; omega)) := List.getElem?_eq_getElem _
            have hxm : l[b]'(by rw [HN.out]; omega) ∈ l := List.getElem_mem _
            generalize l[b]'(by rw [HN.out]; omega) = y at hL hxm
            have HWY := Lib.hid (HWO.out y hxm)
            have HROW : Hid (∀ u d, fC w2 wr k (i + 1 + b) s' (findC s' y.k) 16 d u → g < u.heap.size ∧ u.cell? ⟨g, o + b * 6, none⟩ = some (.int .u8 y.kind) ∧ u.cell? ⟨g, o + b * 6 + 1, none⟩ = some (.int .i64 y.k.a) ∧ u.cell? ⟨g, o + b * 6 + 2, none⟩ = some (.int .i64 y.k.b) ∧ u.cell? ⟨g, o + b * 6 + 3, none⟩ = some (.int .i64 y.k.c) ∧ u.cell? ⟨g, o + b * 6 + 4, none⟩ = some (.int .u32 y.al) ∧ u.cell? ⟨g, o + b * 6 + 5, none⟩ = some (.int .i64 y.sq)) := Lib.hid (fun u d hu => ((HP.out.below HB.out.b).below (fC_below hu)).at6 rfl hL)
            have HGOT : Hid (isC s' y.k = true → s'.seq ≤ (gotC s' y.k).sq) := Lib.hid HJ.out.got
            have HJ2 := Lib.hid (HJ.out.find y.k)
            obtain ⟨dv, hdv⟩ : ∃ dv, gotC s' y.k = dv := ⟨_, rfl⟩
            obtain ⟨ok, hok⟩ : ∃ ok, isC s' y.k = ok := ⟨_, rfl⟩
            have HFD : Hid (∀ u, At w2 u (fun _ => False) k (i + 1 + b) s' → Calls Try.prog 18 #[.pointer (some ⟨k, 0, none⟩), .int .i64 y.k.a, .int .i64 y.k.b, .int .i64 y.k.c] u fun e w' => e = .returned (.tuple #[.agg #[.int .u32 dv.al, .int .u32 dv.aa, .int .u32 dv.ad, .bool dv.pm, .int .i64 dv.sq], .bool ok]) ∧ At w2 w' (fun _ => False) k (i + 1 + b + 1) (findC s' y.k) ∧ StT u w') := Lib.hid (fun u hu => by
              have := find_st y.k hu (by omega) HWY.out.k
              rw [hdv, hok] at this
              exact this)
            rw [hdv, hok] at HGOT
            have h0 : w2.heap.size ≤ wr.heap.size := HK.out.b.size
            have HH0 := Lib.hid h0
            clear hL hxm hdv hok h0
            go_upto_region 16 with fail
            refine wp_region_lnk (fC w2 wr k (i + 1 + b) s' (findC s' y.k) 16) (fR w2 wr k (i + 1 + b) (findC s' y.k) dv 16 20 21) (fP wr (nsV k g o n capl b y dv ok) dv 20 21) (fun q => if q == 21 then some 9 else none) (by kernel_rfl) (by kernel_rfl) (by kernel_rfl) ⟨Nat.le_refl _, by rw [if_neg (by decide)]; exact HK.out.keep (Below.refl _ _).drew⟩ (fC_step HH0.out (by decide) (by decide)) [] (by kernel_rfl) (fun _ _ _ _ _ hij _ h hr => fP_keep hij h hr) ?_ ?_
            · skip
              refine ⟨⟨trivial, fun A v d hd hC hF hW K Q hk => ?_⟩, ⟨trivial, fun A v d hd hC hF hW K Q hk => ?_⟩, ⟨trivial, fun A v d hd hC hF hW K Q hk => ?_⟩, ⟨trivial, fun A v d hd hC hF hW K Q hk => ?_⟩, ⟨trivial, fun A v d hd hC hF hW K Q hk => ?_⟩, ⟨trivial, fun A v d hd hC hF hW K Q hk => ?_⟩, ⟨trivial, fun A v d hd hC hF hW K Q hk => ?_⟩, ⟨trivial, fun A v d hd hC hF hW K Q hk => ?_⟩, ⟨trivial, fun A v d hd hC hF hW K Q hk => ?_⟩, ⟨trivial, fun A v d hd hC hF hW K Q hk => ?_⟩, ⟨trivial, fun A v d hd hC hF hW K Q hk => ?_⟩, ⟨trivial, fun A v d hd hC hF hW K Q hk => ?_⟩, ⟨trivial, fun A v d hd hC hF hW K Q hk => ?_⟩, ⟨trivial, fun A v d hd hC hF hW K Q hk => ?_⟩, ⟨trivial, fun A v d hd hC hF hW K Q hk => ?_⟩, ⟨trivial, fun A v d hd hC hF hW K Q hk => ?_⟩, ⟨trivial, fun A v d hd hC hF hW K Q hk => ?_⟩, ⟨trivial, fun A v d hd hC hF hW K Q hk => ?_⟩, ⟨trivial, fun A v d hd hC hF hW K Q hk => ?_⟩, ⟨trivial, fun A v d hd hC hF hW K Q hk => ?_⟩, ⟨trivial, fun A v d hd hC hF hW K Q hk => ?_⟩, ⟨trivial, fun A v d hd hC hF hW K Q hk => ?_⟩, ⟨trivial, fun A v d hd hC hF hW K Q hk => ?_⟩, trivial⟩
              · have f7 : A.tmps[7]?.getD undef = .pointer (some ⟨k, 0, none⟩) := fg_none (hF 7) (by kernel_rfl)
                refine Giv.wp (φ := fP wr (nsV k g o n capl b y dv ok) dv 20 21 0) ?_ hk
                unfold Giv
                go_simp
                exact giv_val (P := Try.prog) (fR_rfl (by decide) (by decide) (by decide)) (fP_mk (by decide) (by decide) rfl)
              · have f1 : A.tmps[1]?.getD undef = .slice (some ⟨g, o, none⟩) n capl := fg_none (hF 1) (by kernel_rfl)
                refine Giv.wp (φ := fP wr (nsV k g o n capl b y dv ok) dv 20 21 1) ?_ hk
                unfold Giv
                go_simp
                exact giv_val (P := Try.prog) (fR_rfl (by decide) (by decide) (by decide)) (fP_mk (by decide) (by decide) rfl)
              · have f8 : A.tmps[8]?.getD undef = .int .i64 b := fg_none (hF 8) (by kernel_rfl)
                refine Giv.wp (φ := fP wr (nsV k g o n capl b y dv ok) dv 20 21 2) ?_ hk
                unfold Giv
                go_simp
                exact giv_val (P := Try.prog) (fR_rfl (by decide) (by decide) (by decide)) (fP_mk (by decide) (by decide) rfl)
              · have f57 : A.tmps[57]?.getD undef = .slice (some ⟨g, o, none⟩) n capl := fP_val (fg_some (hF 57) (j := 1) (by kernel_rfl) (by kernel_rfl)) (by decide) (by decide) rfl
                have f58 : A.tmps[58]?.getD undef = .int .i64 b := fP_val (fg_some (hF 58) (j := 2) (by kernel_rfl) (by kernel_rfl)) (by decide) (by decide) rfl
                refine Giv.wp (φ := fP wr (nsV k g o n capl b y dv ok) dv 20 21 3) ?_ hk
                unfold Giv
                go_simp
                exact giv_val (P := Try.prog) (fR_rfl (by decide) (by decide) (by decide)) (fP_mk (by decide) (by decide) rfl)
              · have f59 : A.tmps[59]?.getD undef = .pointer (some ⟨g, o + b * 6, none⟩) := fP_val (fg_some (hF 59) (j := 3) (by kernel_rfl) (by kernel_rfl)) (by decide) (by decide) rfl
                refine Giv.wp (φ := fP wr (nsV k g o n capl b y dv ok) dv 20 21 4) ?_ hk
                unfold Giv
                go_simp
                exact giv_val (P := Try.prog) (fR_rfl (by decide) (by decide) (by decide)) (fP_mk (by decide) (by decide) rfl)
              · have f60 : A.tmps[60]?.getD undef = .pointer (some ⟨g, o + b * 6 + 1, none⟩) := fP_val (fg_some (hF 60) (j := 4) (by kernel_rfl) (by kernel_rfl)) (by decide) (by decide) rfl
                obtain ⟨-, y0, y1, y2, y3, y4, y5⟩ := (HROW.out v d hC)
                refine Giv.wp (φ := fP wr (nsV k g o n capl b y dv ok) dv 20 21 5) ?_ hk
                unfold Giv
                go_simp
                exact giv_val (P := Try.prog) (fR_rfl (by decide) (by decide) (by decide)) (fP_mk (by decide) (by decide) rfl)
              · have f1 : A.tmps[1]?.getD undef = .slice (some ⟨g, o, none⟩) n capl := fg_none (hF 1) (by kernel_rfl)
                refine Giv.wp (φ := fP wr (nsV k g o n capl b y dv ok) dv 20 21 6) ?_ hk
                unfold Giv
                go_simp
                exact giv_val (P := Try.prog) (fR_rfl (by decide) (by decide) (by decide)) (fP_mk (by decide) (by decide) rfl)
              · have f8 : A.tmps[8]?.getD undef = .int .i64 b := fg_none (hF 8) (by kernel_rfl)
                refine Giv.wp (φ := fP wr (nsV k g o n capl b y dv ok) dv 20 21 7) ?_ hk
                unfold Giv
                go_simp
                exact giv_val (P := Try.prog) (fR_rfl (by decide) (by decide) (by decide)) (fP_mk (by decide) (by decide) rfl)
              · have f62 : A.tmps[62]?.getD undef = .slice (some ⟨g, o, none⟩) n capl := fP_val (fg_some (hF 62) (j := 6) (by kernel_rfl) (by kernel_rfl)) (by decide) (by decide) rfl
                have f63 : A.tmps[63]?.getD undef = .int .i64 b := fP_val (fg_some (hF 63) (j := 7) (by kernel_rfl) (by kernel_rfl)) (by decide) (by decide) rfl
                refine Giv.wp (φ := fP wr (nsV k g o n capl b y dv ok) dv 20 21 8) ?_ hk
                unfold Giv
                go_simp
                exact giv_val (P := Try.prog) (fR_rfl (by decide) (by decide) (by decide)) (fP_mk (by decide) (by decide) rfl)
              · have f64 : A.tmps[64]?.getD undef = .pointer (some ⟨g, o + b * 6, none⟩) := fP_val (fg_some (hF 64) (j := 8) (by kernel_rfl) (by kernel_rfl)) (by decide) (by decide) rfl
                refine Giv.wp (φ := fP wr (nsV k g o n capl b y dv ok) dv 20 21 9) ?_ hk
                unfold Giv
                go_simp
                exact giv_val (P := Try.prog) (fR_rfl (by decide) (by decide) (by decide)) (fP_mk (by decide) (by decide) rfl)
              · have f65 : A.tmps[65]?.getD undef = .pointer (some ⟨g, o + b * 6 + 2, none⟩) := fP_val (fg_some (hF 65) (j := 9) (by kernel_rfl) (by kernel_rfl)) (by decide) (by decide) rfl
                obtain ⟨-, y0, y1, y2, y3, y4, y5⟩ := (HROW.out v d hC)
                refine Giv.wp (φ := fP wr (nsV k g o n capl b y dv ok) dv 20 21 10) ?_ hk
                unfold Giv
                go_simp
                exact giv_val (P := Try.prog) (fR_rfl (by decide) (by decide) (by decide)) (fP_mk (by decide) (by decide) rfl)
              · have f1 : A.tmps[1]?.getD undef = .slice (some ⟨g, o, none⟩) n capl := fg_none (hF 1) (by kernel_rfl)
                refine Giv.wp (φ := fP wr (nsV k g o n capl b y dv ok) dv 20 21 11) ?_ hk
                unfold Giv
                go_simp
                exact giv_val (P := Try.prog) (fR_rfl (by decide) (by decide) (by decide)) (fP_mk (by decide) (by decide) rfl)
              · have f8 : A.tmps[8]?.getD undef = .int .i64 b := fg_none (hF 8) (by kernel_rfl)
                refine Giv.wp (φ := fP wr (nsV k g o n capl b y dv ok) dv 20 21 12) ?_ hk
                unfold Giv
                go_simp
                exact giv_val (P := Try.prog) (fR_rfl (by decide) (by decide) (by decide)) (fP_mk (by decide) (by decide) rfl)
              · have f67 : A.tmps[67]?.getD undef = .slice (some ⟨g, o, none⟩) n capl := fP_val (fg_some (hF 67) (j := 11) (by kernel_rfl) (by kernel_rfl)) (by decide) (by decide) rfl
                have f68 : A.tmps[68]?.getD undef = .int .i64 b := fP_val (fg_some (hF 68) (j := 12) (by kernel_rfl) (by kernel_rfl)) (by decide) (by decide) rfl
                refine Giv.wp (φ := fP wr (nsV k g o n capl b y dv ok) dv 20 21 13) ?_ hk
                unfold Giv
                go_simp
                exact giv_val (P := Try.prog) (fR_rfl (by decide) (by decide) (by decide)) (fP_mk (by decide) (by decide) rfl)
              · have f69 : A.tmps[69]?.getD undef = .pointer (some ⟨g, o + b * 6, none⟩) := fP_val (fg_some (hF 69) (j := 13) (by kernel_rfl) (by kernel_rfl)) (by decide) (by decide) rfl
                refine Giv.wp (φ := fP wr (nsV k g o n capl b y dv ok) dv 20 21 14) ?_ hk
                unfold Giv
                go_simp
                exact giv_val (P := Try.prog) (fR_rfl (by decide) (by decide) (by decide)) (fP_mk (by decide) (by decide) rfl)
              · have f70 : A.tmps[70]?.getD undef = .pointer (some ⟨g, o + b * 6 + 3, none⟩) := fP_val (fg_some (hF 70) (j := 14) (by kernel_rfl) (by kernel_rfl)) (by decide) (by decide) rfl
                obtain ⟨-, y0, y1, y2, y3, y4, y5⟩ := (HROW.out v d hC)
                refine Giv.wp (φ := fP wr (nsV k g o n capl b y dv ok) dv 20 21 15) ?_ hk
                unfold Giv
                go_simp
                exact giv_val (P := Try.prog) (fR_rfl (by decide) (by decide) (by decide)) (fP_mk (by decide) (by decide) rfl)
              · have f56 : A.tmps[56]?.getD undef = .pointer (some ⟨k, 0, none⟩) := fP_val (fg_some (hF 56) (j := 0) (by kernel_rfl) (by kernel_rfl)) (by decide) (by decide) rfl
                have f61 : A.tmps[61]?.getD undef = .int .i64 y.k.a := fP_val (fg_some (hF 61) (j := 5) (by kernel_rfl) (by kernel_rfl)) (by decide) (by decide) rfl
                have f66 : A.tmps[66]?.getD undef = .int .i64 y.k.b := fP_val (fg_some (hF 66) (j := 10) (by kernel_rfl) (by kernel_rfl)) (by decide) (by decide) rfl
                have f71 : A.tmps[71]?.getD undef = .int .i64 y.k.c := fP_val (fg_some (hF 71) (j := 15) (by kernel_rfl) (by kernel_rfl)) (by decide) (by decide) rfl
                refine Giv.wp (φ := fP wr (nsV k g o n capl b y dv ok) dv 20 21 16) ?_ hk
                unfold Giv
                go_simp
                exact giv_enter (P := Try.prog) ((HFD.out v (fC_pre hC hd)).mono fun e w2 ⟨he, h1, h2⟩ => ⟨_, he, fR_call h1 h2, fP_mk (by decide) (by decide) rfl⟩)
              · have f72 : A.tmps[72]?.getD undef = .tuple #[.agg #[.int .u32 dv.al, .int .u32 dv.aa, .int .u32 dv.ad, .bool dv.pm, .int .i64 dv.sq], .bool ok] := fP_val (fg_some (hF 72) (j := 16) (by kernel_rfl) (by kernel_rfl)) (by decide) (by decide) rfl
                refine Giv.wp (φ := fP wr (nsV k g o n capl b y dv ok) dv 20 21 17) ?_ hk
                unfold Giv
                go_simp
                exact giv_val (P := Try.prog) (fR_rfl (by decide) (by decide) (by decide)) (fP_mk (by decide) (by decide) rfl)
              · have f55 : A.tmps[55]?.getD undef = .tuple #[.agg #[.int .u32 dv.al, .int .u32 dv.aa, .int .u32 dv.ad, .bool dv.pm, .int .i64 dv.sq], .bool ok] := fP_val (fg_some (hF 55) (j := 17) (by kernel_rfl) (by kernel_rfl)) (by decide) (by decide) rfl
                refine Giv.wp (φ := fP wr (nsV k g o n capl b y dv ok) dv 20 21 18) ?_ hk
                unfold Giv
                go_simp
                exact giv_val (P := Try.prog) (fR_rfl (by decide) (by decide) (by decide)) (fP_mk (by decide) (by decide) rfl)
              · have f55 : A.tmps[55]?.getD undef = .tuple #[.agg #[.int .u32 dv.al, .int .u32 dv.aa, .int .u32 dv.ad, .bool dv.pm, .int .i64 dv.sq], .bool ok] := fP_val (fg_some (hF 55) (j := 17) (by kernel_rfl) (by kernel_rfl)) (by decide) (by decide) rfl
                refine Giv.wp (φ := fP wr (nsV k g o n capl b y dv ok) dv 20 21 19) ?_ hk
                unfold Giv
                go_simp
                exact giv_val (P := Try.prog) (fR_rfl (by decide) (by decide) (by decide)) (fP_mk (by decide) (by decide) rfl)
              · refine Giv.wp (φ := fP wr (nsV k g o n capl b y dv ok) dv 20 21 20) ?_ hk
                unfold Giv
                go_simp
                exact giv_val (P := Try.prog) (fR_box (by decide)) (by unfold fP; rw [if_pos rfl]; exact ⟨_, Dc.z, rfl, hC.1, Blk.new _ _ _⟩)
              · obtain ⟨gb, xb, f9, hgb, hbb⟩ := fP_box (fg_some (hF 9) (j := 20) (by kernel_rfl) (by kernel_rfl))
                have f73 : A.tmps[73]?.getD undef = .agg #[.int .u32 dv.al, .int .u32 dv.aa, .int .u32 dv.ad, .bool dv.pm, .int .i64 dv.sq] := fP_val (fg_some (hF 73) (j := 18) (by kernel_rfl) (by kernel_rfl)) (by decide) (by decide) rfl
                have e9 : A.eval (.tmp 9) = .pointer (some ⟨gb, 0, none⟩) := by rw [← f9]; simp [Act.eval]
                obtain ⟨r0, r1, r2, r3, r4, z0, z1, z2, z3, z4⟩ := Blk.cells5 hbb
                refine Giv.wp (φ := fun _ w2 => fP wr (nsV k g o n capl b y dv ok) dv 20 21 21 (A.eval (.tmp 9)) w2) ?_ hk
                rw [e9]
                unfold Giv
                go_simp
                first | exact giv_skip (P := Try.prog) (fR_fill (by decide) (by decide) hgb hbb) (by unfold fP; rw [if_neg (by decide), if_pos rfl]; exact ⟨gb, rfl, hgb, set5_blk hbb dv⟩) | exact giv_val (P := Try.prog) (fR_fill (by decide) (by decide) hgb hbb) (by unfold fP; rw [if_neg (by decide), if_pos rfl]; exact ⟨gb, rfl, hgb, set5_blk hbb dv⟩)
              · have f74 : A.tmps[74]?.getD undef = .bool ok := fP_val (fg_some (hF 74) (j := 19) (by kernel_rfl) (by kernel_rfl)) (by decide) (by decide) rfl
                refine Giv.wp (φ := fP wr (nsV k g o n capl b y dv ok) dv 20 21 22) ?_ hk
                unfold Giv
                go_simp
                exact giv_val (P := Try.prog) (fR_rfl (by decide) (by decide) (by decide)) (fP_mk (by decide) (by decide) rfl)
            · intro a0 W9 d hd hC hsz hdf hF hL
              have hA9 := fC_post hC (hd 16 (by decide))
              have ha := end_gen [false, false, false, false, false, false, false, false, false, true, true, false, false, false, false, false, false, false, false, false, false, false, false, false, false, false, false, false, false, false, false, false, false, false, false, false, false, false, false, false, false, false, false, false, false, false, false, false, false, false, false, false, false, false, false, true, true, true, true, true, true, true, true, true, true, true, true, true, true, true, true, true, true, true, true] hsz hdf hF (by kernel_rfl)
              have f10 : a0.tmps[10]?.getD undef = .bool ok := fP_val (fe_some (hF 10) (j := 22) (by kernel_rfl)) (by decide) (by decide) rfl
              obtain ⟨gb, f9, hgb, hbb⟩ := fP_full (by decide) (fl_link hL (j := 21) rfl rfl rfl)
              rw [ha]
              clear ha hF hL hd
              simp only [cutM_yes, cutM_no, cutM_nil, Nat.reduceAdd]
              rw [f10, f9]
              clear f10 f9
              generalize a0.tmps[55]?.getD undef = s55
              generalize a0.tmps[56]?.getD undef = s56
              generalize a0.tmps[57]?.getD undef = s57
              generalize a0.tmps[58]?.getD undef = s58
              generalize a0.tmps[59]?.getD undef = s59
              generalize a0.tmps[60]?.getD undef = s60
              generalize a0.tmps[61]?.getD undef = s61
              generalize a0.tmps[62]?.getD undef = s62
              generalize a0.tmps[63]?.getD undef = s63
              generalize a0.tmps[64]?.getD undef = s64
              generalize a0.tmps[65]?.getD undef = s65
              generalize a0.tmps[66]?.getD undef = s66
              generalize a0.tmps[67]?.getD undef = s67
              generalize a0.tmps[68]?.getD undef = s68
              generalize a0.tmps[69]?.getD undef = s69
              generalize a0.tmps[70]?.getD undef = s70
              generalize a0.tmps[71]?.getD undef = s71
              generalize a0.tmps[72]?.getD undef = s72
              generalize a0.tmps[73]?.getD undef = s73
              generalize a0.tmps[74]?.getD undef = s74
              clear hsz hdf
              have HBX := Lib.hid hbb
              have HA9 := Lib.hid hA9
              clear hC hbb hA9 hgb
              have HA10 := Lib.hid (HB.out.keep HA9.out.b)
              have HNL : Hid (ok = true → ¬ dv.sq < s2.seq) := Lib.hid (fun h => by have := HGOT.out h; have := HSQ.out; omega)
              clear HROW HFD HH0 HWY HGOT
              cases ok
              · go_upto_region 17 with fail
                refine wp_region_kp (by kernel_rfl) (by kernel_rfl) ?_
                repeat (first
                  | go_big_quiet_skip
                  | (go_big_quiet_want
                     first
                       | (go_big_quiet_op
                          first
                            | go_big_quiet_on
                            | (apply Exists.intro
                               refine ⟨fun w1 hC => ?_, ?_⟩
                               · first
                                   | (exact fun x => x)
                                   | exact rfl
                                   | (go_simp; exact ⟨rfl, rfl⟩)
                               go_big_quiet_on))))
                refine wpQuiet_nil ?_
                intro W10 hC10
                have HA11 : Hid (At w2 W10 (fun _ => False) k (i + 1 + b + 1) (findC s' y.k)) := Lib.hid (HA9.out.keep hC10)
                clear hC10
                go_wp2_with fail
                exact ⟨⟨b + 1, findC s' y.k, by omega, by go_num, Lib.hid HJ2.out.1, Lib.hid (HJ2.out.2.trans HSQ.out), HA11⟩, by simp [intOf]; omega⟩
              · have hnl := HNL.out rfl
                go_upto_region 17 with fail
                refine wp_region_kp (by kernel_rfl) (by kernel_rfl) ?_
                repeat (first
                  | go_big_quiet_skip
                  | (go_big_quiet_want
                     first
                       | (go_big_quiet_op
                          first
                            | go_big_quiet_on
                            | (apply Exists.intro
                               refine ⟨fun w1 hC => ?_, ?_⟩
                               · first
                                   | (have hsq := hC.call_same (seq_at (HA10.out.keep hC)); go_at_call 17; with_reducible exact hsq)
                                   | (obtain ⟨k0, k1, k2, k3, k4, _⟩ := (HBX.out.keep hC).cells5; go_simp; exact ⟨rfl, rfl⟩)
                                   | (obtain ⟨k0, k1, k2, k3, k4, _⟩ := (HBX.out.keep hC).cells5; go_simp; exact rfl)
                                   | exact rfl
                                   | (go_simp; exact ⟨rfl, rfl⟩)
                               go_big_quiet_on))))
                refine wpQuiet_nil ?_
                intro W10 hC10
                have HA11 : Hid (At w2 W10 (fun _ => False) k (i + 1 + b + 1) (findC s' y.k)) := Lib.hid (HA9.out.keep hC10)
                clear hC10
                go_wp2_with fail
                exact ⟨⟨b + 1, findC s' y.k, by omega, by go_num, Lib.hid HJ2.out.1, Lib.hid (HJ2.out.2.trans HSQ.out), HA11⟩, by simp [intOf]; omega⟩
          · obtain rfl : b = i + 1 := by omega
            have HC2 := Lib.hid (HB.out.keep HK.out.b)
            go_wp2_with fail
            exact ⟨⟨i + 1, s2, by omega, by go_num, HI2, HC2⟩, by simp [intOf]; omega⟩
      · obtain rfl : i = n := by omega
        go_wp2_with (go_at_call 10; refine (awake_c _).mono ?_; rintro e w8 ⟨rfl, hb8⟩)
        go_ret
        exact ⟨rfl, HA.out.b.trans (hb8.mono HA.out.b.size)⟩
end Go.Proofs.Ytbhoofihnmmmfaa
