/- Part of the proof: Cxp. No conditions. -/
import Derived.Test.YtbhoofihnmmmfabGreatYal
namespace Go.Proofs.YtbhoofihnmmmfabGreat
open Go.RowKit
set_option maxRecDepth 100000 in
set_option maxHeartbeats 64000000 in
theorem node_c (op a r b : Int) (ao : Option Addr) (nn cap : Nat) (s : S4) (ak : Option Addr) (m ck : Nat) (w : World) :
 Calls Tryz.prog 77 #[.agg #[.int .i64 op, .int .i64 a, .int .i64 r, .int .i64 b, .slice ao nn cap, .int .u64 s.a, .int .u64 s.b, .int .u64 s.c, .int .u64 s.d, .slice ak m ck], .bool false, .bool true] w fun e w' => e = .returned (.int .i64 (nodeR op a r b nn s m)) ∧ Below w.heap.size w w' := by
 have HX : Hid (XC (w.alloc (.cells #[.int .i64 op, .int .i64 a, .int .i64 r, .int .i64 b, .slice ao nn cap, .int .u64 s.a, .int .u64 s.b, .int .u64 s.c, .int .u64 s.d, .slice ak m ck] 55)) w.heap.size 0 op a r b ao nn cap s ak m ck) := Lib.hid (XC.of_blk (Blk.new w _ _))
 have HB : Hid (Below w.heap.size w (w.alloc (.cells #[.int .i64 op, .int .i64 a, .int .i64 r, .int .i64 b, .slice ao nn cap, .int .u64 s.a, .int .u64 s.b, .int .u64 s.c, .int .u64 s.d, .slice ak m ck] 55))) := Lib.hid ((Below.refl _ _).alloc (Nat.le_refl _) _)
 have HG : Hid (w.heap.size < (w.alloc (.cells #[.int .i64 op, .int .i64 a, .int .i64 r, .int .i64 b, .slice ao nn cap, .int .u64 s.a, .int .u64 s.b, .int .u64 s.c, .int .u64 s.d, .slice ak m ck] 55)).heap.size) := Lib.hid (by simp)
 have HF := Lib.hid (fields_c op a r b ao nn cap s ak m ck)
 have HK := Lib.hid (kids_c op)
 have HWa := Lib.hid (within_c a 15)
 have HWb := Lib.hid (within_c b 15)
 have HWr := Lib.hid (within_c r 5)
 have HSa := Lib.hid (rsort_c a)
 have HSb := Lib.hid (rsort_c b)
 unfold nodeR
 generalize fldR (kidsN op) op a r b nn s m = f at *
 generalize kidsN op = K at *
 generalize inB a 15 = wa at *
 generalize inB b 15 = wb at *
 generalize inB r 5 = wr at *
 generalize sortA a = sA at *
 generalize sortA b = sB at *
 cases f with
 | false =>
   rw [if_pos rfl]
   go_enter Tryz.func77, Tryz.ntmps77
   go_wp2_with (first
    | (go_at_call 106; (with_reducible refine (HF.out _).mono ?_); rintro e u ⟨rfl, hb⟩; have HX := Lib.hid (HX.out.keep (hb.block w.heap.size HG.out)); have HG := Lib.hid (Nat.lt_of_lt_of_le HG.out hb.size); have HB := Lib.hid (HB.out.trans (hb.mono HB.out.size)); obtain ⟨y0, y1, y2, y3, y4, y5, y6, y7, y8, y9⟩ := HX.out.cells; clear hb)
    | (go_at_call 107; (with_reducible refine (HK.out _).mono ?_); rintro e u ⟨rfl, hb⟩; have HX := Lib.hid (HX.out.keep (hb.block w.heap.size HG.out)); have HG := Lib.hid (Nat.lt_of_lt_of_le HG.out hb.size); have HB := Lib.hid (HB.out.trans (hb.mono HB.out.size)); obtain ⟨y0, y1, y2, y3, y4, y5, y6, y7, y8, y9⟩ := HX.out.cells; clear hb)
    | (go_at_call 108; (with_reducible refine (HWa.out _).mono ?_); rintro e u ⟨rfl, hb⟩; have HX := Lib.hid (HX.out.keep (hb.block w.heap.size HG.out)); have HG := Lib.hid (Nat.lt_of_lt_of_le HG.out hb.size); have HB := Lib.hid (HB.out.trans (hb.mono HB.out.size)); obtain ⟨y0, y1, y2, y3, y4, y5, y6, y7, y8, y9⟩ := HX.out.cells; clear hb)
    | (go_at_call 108; (with_reducible refine (HWb.out _).mono ?_); rintro e u ⟨rfl, hb⟩; have HX := Lib.hid (HX.out.keep (hb.block w.heap.size HG.out)); have HG := Lib.hid (Nat.lt_of_lt_of_le HG.out hb.size); have HB := Lib.hid (HB.out.trans (hb.mono HB.out.size)); obtain ⟨y0, y1, y2, y3, y4, y5, y6, y7, y8, y9⟩ := HX.out.cells; clear hb)
    | (go_at_call 108; (with_reducible refine (HWr.out _).mono ?_); rintro e u ⟨rfl, hb⟩; have HX := Lib.hid (HX.out.keep (hb.block w.heap.size HG.out)); have HG := Lib.hid (Nat.lt_of_lt_of_le HG.out hb.size); have HB := Lib.hid (HB.out.trans (hb.mono HB.out.size)); obtain ⟨y0, y1, y2, y3, y4, y5, y6, y7, y8, y9⟩ := HX.out.cells; clear hb)
    | (go_at_call 109; (with_reducible refine (HSa.out _).mono ?_); rintro e u ⟨rfl, hb⟩; have HX := Lib.hid (HX.out.keep (hb.block w.heap.size HG.out)); have HG := Lib.hid (Nat.lt_of_lt_of_le HG.out hb.size); have HB := Lib.hid (HB.out.trans (hb.mono HB.out.size)); obtain ⟨y0, y1, y2, y3, y4, y5, y6, y7, y8, y9⟩ := HX.out.cells; clear hb))
   go_ret
   exact ⟨rfl, HB.out⟩
 | true =>
   rw [if_neg (by simp)]
   by_cases hK : 0 < K
   · rw [if_pos hK]
     go_enter Tryz.func77, Tryz.ntmps77
     go_wp2_with (first
      | (go_at_call 106; (with_reducible refine (HF.out _).mono ?_); rintro e u ⟨rfl, hb⟩; have HX := Lib.hid (HX.out.keep (hb.block w.heap.size HG.out)); have HG := Lib.hid (Nat.lt_of_lt_of_le HG.out hb.size); have HB := Lib.hid (HB.out.trans (hb.mono HB.out.size)); obtain ⟨y0, y1, y2, y3, y4, y5, y6, y7, y8, y9⟩ := HX.out.cells; clear hb)
      | (go_at_call 107; (with_reducible refine (HK.out _).mono ?_); rintro e u ⟨rfl, hb⟩; have HX := Lib.hid (HX.out.keep (hb.block w.heap.size HG.out)); have HG := Lib.hid (Nat.lt_of_lt_of_le HG.out hb.size); have HB := Lib.hid (HB.out.trans (hb.mono HB.out.size)); obtain ⟨y0, y1, y2, y3, y4, y5, y6, y7, y8, y9⟩ := HX.out.cells; clear hb)
      | (go_at_call 108; (with_reducible refine (HWa.out _).mono ?_); rintro e u ⟨rfl, hb⟩; have HX := Lib.hid (HX.out.keep (hb.block w.heap.size HG.out)); have HG := Lib.hid (Nat.lt_of_lt_of_le HG.out hb.size); have HB := Lib.hid (HB.out.trans (hb.mono HB.out.size)); obtain ⟨y0, y1, y2, y3, y4, y5, y6, y7, y8, y9⟩ := HX.out.cells; clear hb)
      | (go_at_call 108; (with_reducible refine (HWb.out _).mono ?_); rintro e u ⟨rfl, hb⟩; have HX := Lib.hid (HX.out.keep (hb.block w.heap.size HG.out)); have HG := Lib.hid (Nat.lt_of_lt_of_le HG.out hb.size); have HB := Lib.hid (HB.out.trans (hb.mono HB.out.size)); obtain ⟨y0, y1, y2, y3, y4, y5, y6, y7, y8, y9⟩ := HX.out.cells; clear hb)
      | (go_at_call 108; (with_reducible refine (HWr.out _).mono ?_); rintro e u ⟨rfl, hb⟩; have HX := Lib.hid (HX.out.keep (hb.block w.heap.size HG.out)); have HG := Lib.hid (Nat.lt_of_lt_of_le HG.out hb.size); have HB := Lib.hid (HB.out.trans (hb.mono HB.out.size)); obtain ⟨y0, y1, y2, y3, y4, y5, y6, y7, y8, y9⟩ := HX.out.cells; clear hb)
      | (go_at_call 109; (with_reducible refine (HSa.out _).mono ?_); rintro e u ⟨rfl, hb⟩; have HX := Lib.hid (HX.out.keep (hb.block w.heap.size HG.out)); have HG := Lib.hid (Nat.lt_of_lt_of_le HG.out hb.size); have HB := Lib.hid (HB.out.trans (hb.mono HB.out.size)); obtain ⟨y0, y1, y2, y3, y4, y5, y6, y7, y8, y9⟩ := HX.out.cells; clear hb))
     go_ret
     exact ⟨rfl, HB.out⟩
   · rw [if_neg hK]
     cases wa with
     | false =>
       rw [if_pos (.inl rfl)]
       go_enter Tryz.func77, Tryz.ntmps77
       go_wp2_with (first
        | (go_at_call 106; (with_reducible refine (HF.out _).mono ?_); rintro e u ⟨rfl, hb⟩; have HX := Lib.hid (HX.out.keep (hb.block w.heap.size HG.out)); have HG := Lib.hid (Nat.lt_of_lt_of_le HG.out hb.size); have HB := Lib.hid (HB.out.trans (hb.mono HB.out.size)); obtain ⟨y0, y1, y2, y3, y4, y5, y6, y7, y8, y9⟩ := HX.out.cells; clear hb)
        | (go_at_call 107; (with_reducible refine (HK.out _).mono ?_); rintro e u ⟨rfl, hb⟩; have HX := Lib.hid (HX.out.keep (hb.block w.heap.size HG.out)); have HG := Lib.hid (Nat.lt_of_lt_of_le HG.out hb.size); have HB := Lib.hid (HB.out.trans (hb.mono HB.out.size)); obtain ⟨y0, y1, y2, y3, y4, y5, y6, y7, y8, y9⟩ := HX.out.cells; clear hb)
        | (go_at_call 108; (with_reducible refine (HWa.out _).mono ?_); rintro e u ⟨rfl, hb⟩; have HX := Lib.hid (HX.out.keep (hb.block w.heap.size HG.out)); have HG := Lib.hid (Nat.lt_of_lt_of_le HG.out hb.size); have HB := Lib.hid (HB.out.trans (hb.mono HB.out.size)); obtain ⟨y0, y1, y2, y3, y4, y5, y6, y7, y8, y9⟩ := HX.out.cells; clear hb)
        | (go_at_call 108; (with_reducible refine (HWb.out _).mono ?_); rintro e u ⟨rfl, hb⟩; have HX := Lib.hid (HX.out.keep (hb.block w.heap.size HG.out)); have HG := Lib.hid (Nat.lt_of_lt_of_le HG.out hb.size); have HB := Lib.hid (HB.out.trans (hb.mono HB.out.size)); obtain ⟨y0, y1, y2, y3, y4, y5, y6, y7, y8, y9⟩ := HX.out.cells; clear hb)
        | (go_at_call 108; (with_reducible refine (HWr.out _).mono ?_); rintro e u ⟨rfl, hb⟩; have HX := Lib.hid (HX.out.keep (hb.block w.heap.size HG.out)); have HG := Lib.hid (Nat.lt_of_lt_of_le HG.out hb.size); have HB := Lib.hid (HB.out.trans (hb.mono HB.out.size)); obtain ⟨y0, y1, y2, y3, y4, y5, y6, y7, y8, y9⟩ := HX.out.cells; clear hb)
        | (go_at_call 109; (with_reducible refine (HSa.out _).mono ?_); rintro e u ⟨rfl, hb⟩; have HX := Lib.hid (HX.out.keep (hb.block w.heap.size HG.out)); have HG := Lib.hid (Nat.lt_of_lt_of_le HG.out hb.size); have HB := Lib.hid (HB.out.trans (hb.mono HB.out.size)); obtain ⟨y0, y1, y2, y3, y4, y5, y6, y7, y8, y9⟩ := HX.out.cells; clear hb))
       go_ret
       exact ⟨rfl, HB.out⟩
     | true =>
       cases wb with
       | false =>
         rw [if_pos (.inr (.inl rfl))]
         go_enter Tryz.func77, Tryz.ntmps77
         go_wp2_with (first
          | (go_at_call 106; (with_reducible refine (HF.out _).mono ?_); rintro e u ⟨rfl, hb⟩; have HX := Lib.hid (HX.out.keep (hb.block w.heap.size HG.out)); have HG := Lib.hid (Nat.lt_of_lt_of_le HG.out hb.size); have HB := Lib.hid (HB.out.trans (hb.mono HB.out.size)); obtain ⟨y0, y1, y2, y3, y4, y5, y6, y7, y8, y9⟩ := HX.out.cells; clear hb)
          | (go_at_call 107; (with_reducible refine (HK.out _).mono ?_); rintro e u ⟨rfl, hb⟩; have HX := Lib.hid (HX.out.keep (hb.block w.heap.size HG.out)); have HG := Lib.hid (Nat.lt_of_lt_of_le HG.out hb.size); have HB := Lib.hid (HB.out.trans (hb.mono HB.out.size)); obtain ⟨y0, y1, y2, y3, y4, y5, y6, y7, y8, y9⟩ := HX.out.cells; clear hb)
          | (go_at_call 108; (with_reducible refine (HWa.out _).mono ?_); rintro e u ⟨rfl, hb⟩; have HX := Lib.hid (HX.out.keep (hb.block w.heap.size HG.out)); have HG := Lib.hid (Nat.lt_of_lt_of_le HG.out hb.size); have HB := Lib.hid (HB.out.trans (hb.mono HB.out.size)); obtain ⟨y0, y1, y2, y3, y4, y5, y6, y7, y8, y9⟩ := HX.out.cells; clear hb)
          | (go_at_call 108; (with_reducible refine (HWb.out _).mono ?_); rintro e u ⟨rfl, hb⟩; have HX := Lib.hid (HX.out.keep (hb.block w.heap.size HG.out)); have HG := Lib.hid (Nat.lt_of_lt_of_le HG.out hb.size); have HB := Lib.hid (HB.out.trans (hb.mono HB.out.size)); obtain ⟨y0, y1, y2, y3, y4, y5, y6, y7, y8, y9⟩ := HX.out.cells; clear hb)
          | (go_at_call 108; (with_reducible refine (HWr.out _).mono ?_); rintro e u ⟨rfl, hb⟩; have HX := Lib.hid (HX.out.keep (hb.block w.heap.size HG.out)); have HG := Lib.hid (Nat.lt_of_lt_of_le HG.out hb.size); have HB := Lib.hid (HB.out.trans (hb.mono HB.out.size)); obtain ⟨y0, y1, y2, y3, y4, y5, y6, y7, y8, y9⟩ := HX.out.cells; clear hb)
          | (go_at_call 109; (with_reducible refine (HSa.out _).mono ?_); rintro e u ⟨rfl, hb⟩; have HX := Lib.hid (HX.out.keep (hb.block w.heap.size HG.out)); have HG := Lib.hid (Nat.lt_of_lt_of_le HG.out hb.size); have HB := Lib.hid (HB.out.trans (hb.mono HB.out.size)); obtain ⟨y0, y1, y2, y3, y4, y5, y6, y7, y8, y9⟩ := HX.out.cells; clear hb))
         go_ret
         exact ⟨rfl, HB.out⟩
       | true =>
         cases wr with
         | false =>
           rw [if_pos (.inr (.inr rfl))]
           go_enter Tryz.func77, Tryz.ntmps77
           go_wp2_with (first
            | (go_at_call 106; (with_reducible refine (HF.out _).mono ?_); rintro e u ⟨rfl, hb⟩; have HX := Lib.hid (HX.out.keep (hb.block w.heap.size HG.out)); have HG := Lib.hid (Nat.lt_of_lt_of_le HG.out hb.size); have HB := Lib.hid (HB.out.trans (hb.mono HB.out.size)); obtain ⟨y0, y1, y2, y3, y4, y5, y6, y7, y8, y9⟩ := HX.out.cells; clear hb)
            | (go_at_call 107; (with_reducible refine (HK.out _).mono ?_); rintro e u ⟨rfl, hb⟩; have HX := Lib.hid (HX.out.keep (hb.block w.heap.size HG.out)); have HG := Lib.hid (Nat.lt_of_lt_of_le HG.out hb.size); have HB := Lib.hid (HB.out.trans (hb.mono HB.out.size)); obtain ⟨y0, y1, y2, y3, y4, y5, y6, y7, y8, y9⟩ := HX.out.cells; clear hb)
            | (go_at_call 108; (with_reducible refine (HWa.out _).mono ?_); rintro e u ⟨rfl, hb⟩; have HX := Lib.hid (HX.out.keep (hb.block w.heap.size HG.out)); have HG := Lib.hid (Nat.lt_of_lt_of_le HG.out hb.size); have HB := Lib.hid (HB.out.trans (hb.mono HB.out.size)); obtain ⟨y0, y1, y2, y3, y4, y5, y6, y7, y8, y9⟩ := HX.out.cells; clear hb)
            | (go_at_call 108; (with_reducible refine (HWb.out _).mono ?_); rintro e u ⟨rfl, hb⟩; have HX := Lib.hid (HX.out.keep (hb.block w.heap.size HG.out)); have HG := Lib.hid (Nat.lt_of_lt_of_le HG.out hb.size); have HB := Lib.hid (HB.out.trans (hb.mono HB.out.size)); obtain ⟨y0, y1, y2, y3, y4, y5, y6, y7, y8, y9⟩ := HX.out.cells; clear hb)
            | (go_at_call 108; (with_reducible refine (HWr.out _).mono ?_); rintro e u ⟨rfl, hb⟩; have HX := Lib.hid (HX.out.keep (hb.block w.heap.size HG.out)); have HG := Lib.hid (Nat.lt_of_lt_of_le HG.out hb.size); have HB := Lib.hid (HB.out.trans (hb.mono HB.out.size)); obtain ⟨y0, y1, y2, y3, y4, y5, y6, y7, y8, y9⟩ := HX.out.cells; clear hb)
            | (go_at_call 109; (with_reducible refine (HSa.out _).mono ?_); rintro e u ⟨rfl, hb⟩; have HX := Lib.hid (HX.out.keep (hb.block w.heap.size HG.out)); have HG := Lib.hid (Nat.lt_of_lt_of_le HG.out hb.size); have HB := Lib.hid (HB.out.trans (hb.mono HB.out.size)); obtain ⟨y0, y1, y2, y3, y4, y5, y6, y7, y8, y9⟩ := HX.out.cells; clear hb))
           go_ret
           exact ⟨rfl, HB.out⟩
         | true =>
           rw [if_neg (by simp)]
           by_cases h9 : op = 9
           · have p9 : (op == 9) = true := by rw [h9]; rfl
             have p8 : (op == 8) = false := by rw [h9]; rfl
             by_cases e3 : sA = 3
             · rw [if_pos ⟨h9, e3⟩]
               have q3 : (sA == 3) = true := by rw [e3]; rfl
               clear h9 e3
               go_enter Tryz.func77, Tryz.ntmps77
               go_wp2_with (first
                | (go_at_call 106; (with_reducible refine (HF.out _).mono ?_); rintro e u ⟨rfl, hb⟩; have HX := Lib.hid (HX.out.keep (hb.block w.heap.size HG.out)); have HG := Lib.hid (Nat.lt_of_lt_of_le HG.out hb.size); have HB := Lib.hid (HB.out.trans (hb.mono HB.out.size)); obtain ⟨y0, y1, y2, y3, y4, y5, y6, y7, y8, y9⟩ := HX.out.cells; clear hb)
                | (go_at_call 107; (with_reducible refine (HK.out _).mono ?_); rintro e u ⟨rfl, hb⟩; have HX := Lib.hid (HX.out.keep (hb.block w.heap.size HG.out)); have HG := Lib.hid (Nat.lt_of_lt_of_le HG.out hb.size); have HB := Lib.hid (HB.out.trans (hb.mono HB.out.size)); obtain ⟨y0, y1, y2, y3, y4, y5, y6, y7, y8, y9⟩ := HX.out.cells; clear hb)
                | (go_at_call 108; (with_reducible refine (HWa.out _).mono ?_); rintro e u ⟨rfl, hb⟩; have HX := Lib.hid (HX.out.keep (hb.block w.heap.size HG.out)); have HG := Lib.hid (Nat.lt_of_lt_of_le HG.out hb.size); have HB := Lib.hid (HB.out.trans (hb.mono HB.out.size)); obtain ⟨y0, y1, y2, y3, y4, y5, y6, y7, y8, y9⟩ := HX.out.cells; clear hb)
                | (go_at_call 108; (with_reducible refine (HWb.out _).mono ?_); rintro e u ⟨rfl, hb⟩; have HX := Lib.hid (HX.out.keep (hb.block w.heap.size HG.out)); have HG := Lib.hid (Nat.lt_of_lt_of_le HG.out hb.size); have HB := Lib.hid (HB.out.trans (hb.mono HB.out.size)); obtain ⟨y0, y1, y2, y3, y4, y5, y6, y7, y8, y9⟩ := HX.out.cells; clear hb)
                | (go_at_call 108; (with_reducible refine (HWr.out _).mono ?_); rintro e u ⟨rfl, hb⟩; have HX := Lib.hid (HX.out.keep (hb.block w.heap.size HG.out)); have HG := Lib.hid (Nat.lt_of_lt_of_le HG.out hb.size); have HB := Lib.hid (HB.out.trans (hb.mono HB.out.size)); obtain ⟨y0, y1, y2, y3, y4, y5, y6, y7, y8, y9⟩ := HX.out.cells; clear hb)
                | (go_at_call 109; (with_reducible refine (HSa.out _).mono ?_); rintro e u ⟨rfl, hb⟩; have HX := Lib.hid (HX.out.keep (hb.block w.heap.size HG.out)); have HG := Lib.hid (Nat.lt_of_lt_of_le HG.out hb.size); have HB := Lib.hid (HB.out.trans (hb.mono HB.out.size)); obtain ⟨y0, y1, y2, y3, y4, y5, y6, y7, y8, y9⟩ := HX.out.cells; clear hb))
               go_ret
               exact ⟨rfl, HB.out⟩
             · rw [if_neg (fun k => e3 k.2), if_neg (fun k => by omega)]
               have q3 : (sA == 3) = false := by simpa using e3
               clear h9 e3
               go_enter Tryz.func77, Tryz.ntmps77
               go_upto_region 12 with (first
                | (go_at_call 106; (with_reducible refine (HF.out _).mono ?_); rintro e u ⟨rfl, hb⟩; have HX := Lib.hid (HX.out.keep (hb.block w.heap.size HG.out)); have HG := Lib.hid (Nat.lt_of_lt_of_le HG.out hb.size); have HB := Lib.hid (HB.out.trans (hb.mono HB.out.size)); obtain ⟨y0, y1, y2, y3, y4, y5, y6, y7, y8, y9⟩ := HX.out.cells; clear hb)
                | (go_at_call 107; (with_reducible refine (HK.out _).mono ?_); rintro e u ⟨rfl, hb⟩; have HX := Lib.hid (HX.out.keep (hb.block w.heap.size HG.out)); have HG := Lib.hid (Nat.lt_of_lt_of_le HG.out hb.size); have HB := Lib.hid (HB.out.trans (hb.mono HB.out.size)); obtain ⟨y0, y1, y2, y3, y4, y5, y6, y7, y8, y9⟩ := HX.out.cells; clear hb)
                | (go_at_call 108; (with_reducible refine (HWa.out _).mono ?_); rintro e u ⟨rfl, hb⟩; have HX := Lib.hid (HX.out.keep (hb.block w.heap.size HG.out)); have HG := Lib.hid (Nat.lt_of_lt_of_le HG.out hb.size); have HB := Lib.hid (HB.out.trans (hb.mono HB.out.size)); obtain ⟨y0, y1, y2, y3, y4, y5, y6, y7, y8, y9⟩ := HX.out.cells; clear hb)
                | (go_at_call 108; (with_reducible refine (HWb.out _).mono ?_); rintro e u ⟨rfl, hb⟩; have HX := Lib.hid (HX.out.keep (hb.block w.heap.size HG.out)); have HG := Lib.hid (Nat.lt_of_lt_of_le HG.out hb.size); have HB := Lib.hid (HB.out.trans (hb.mono HB.out.size)); obtain ⟨y0, y1, y2, y3, y4, y5, y6, y7, y8, y9⟩ := HX.out.cells; clear hb)
                | (go_at_call 108; (with_reducible refine (HWr.out _).mono ?_); rintro e u ⟨rfl, hb⟩; have HX := Lib.hid (HX.out.keep (hb.block w.heap.size HG.out)); have HG := Lib.hid (Nat.lt_of_lt_of_le HG.out hb.size); have HB := Lib.hid (HB.out.trans (hb.mono HB.out.size)); obtain ⟨y0, y1, y2, y3, y4, y5, y6, y7, y8, y9⟩ := HX.out.cells; clear hb)
                | (go_at_call 109; (with_reducible refine (HSa.out _).mono ?_); rintro e u ⟨rfl, hb⟩; have HX := Lib.hid (HX.out.keep (hb.block w.heap.size HG.out)); have HG := Lib.hid (Nat.lt_of_lt_of_le HG.out hb.size); have HB := Lib.hid (HB.out.trans (hb.mono HB.out.size)); obtain ⟨y0, y1, y2, y3, y4, y5, y6, y7, y8, y9⟩ := HX.out.cells; clear hb))
               refine wp_region_kp (by kernel_rfl) (by kernel_rfl) ?_
               repeat (first
                | go_big_quiet_skip
                | (go_big_quiet_want
                   go_big_quiet_op
                   first
                    | go_big_quiet_on
                    | (apply Exists.intro
                       refine ⟨fun w1 hC => ?_, ?_⟩
                       · first
                          | (go_at_call 109; with_reducible first | exact hC.call (HSa.out _) | exact hC.call (HSb.out _))
                          | (go_simp; exact ⟨rfl, rfl⟩)
                          | (obtain ⟨y0, y1, y2, y3, y4, y5, y6, y7, y8, y9⟩ := (HX.out.keep (hC.block w.heap.size HG.out)).cells; go_simp; exact rfl)
                       go_big_quiet_on)))
               refine wpQuiet_nil ?_
               intro W1 hC
               have HB := Lib.hid (HB.out.trans (hC.mono HB.out.size))
               clear hC
               go_wp2_with fail
               go_ret
               exact ⟨rfl, HB.out⟩
           · have p9 : (op == 9) = false := by simpa using h9
             rw [if_neg (fun k => h9 k.1)]
             by_cases h8 : op = 8
             · have p8 : (op == 8) = true := by rw [h8]; rfl
               by_cases eab : sA = sB
               · have qab : (sA != sB) = false := by rw [eab]; simp
                 by_cases e3 : sA = 3
                 · rw [if_neg (fun k => by omega)]
                   have q3 : (sA != 3) = false := by rw [e3]; rfl
                   clear h8 h9 eab e3
                   go_enter Tryz.func77, Tryz.ntmps77
                   go_upto_region 12 with (first
                    | (go_at_call 106; (with_reducible refine (HF.out _).mono ?_); rintro e u ⟨rfl, hb⟩; have HX := Lib.hid (HX.out.keep (hb.block w.heap.size HG.out)); have HG := Lib.hid (Nat.lt_of_lt_of_le HG.out hb.size); have HB := Lib.hid (HB.out.trans (hb.mono HB.out.size)); obtain ⟨y0, y1, y2, y3, y4, y5, y6, y7, y8, y9⟩ := HX.out.cells; clear hb)
                    | (go_at_call 107; (with_reducible refine (HK.out _).mono ?_); rintro e u ⟨rfl, hb⟩; have HX := Lib.hid (HX.out.keep (hb.block w.heap.size HG.out)); have HG := Lib.hid (Nat.lt_of_lt_of_le HG.out hb.size); have HB := Lib.hid (HB.out.trans (hb.mono HB.out.size)); obtain ⟨y0, y1, y2, y3, y4, y5, y6, y7, y8, y9⟩ := HX.out.cells; clear hb)
                    | (go_at_call 108; (with_reducible refine (HWa.out _).mono ?_); rintro e u ⟨rfl, hb⟩; have HX := Lib.hid (HX.out.keep (hb.block w.heap.size HG.out)); have HG := Lib.hid (Nat.lt_of_lt_of_le HG.out hb.size); have HB := Lib.hid (HB.out.trans (hb.mono HB.out.size)); obtain ⟨y0, y1, y2, y3, y4, y5, y6, y7, y8, y9⟩ := HX.out.cells; clear hb)
                    | (go_at_call 108; (with_reducible refine (HWb.out _).mono ?_); rintro e u ⟨rfl, hb⟩; have HX := Lib.hid (HX.out.keep (hb.block w.heap.size HG.out)); have HG := Lib.hid (Nat.lt_of_lt_of_le HG.out hb.size); have HB := Lib.hid (HB.out.trans (hb.mono HB.out.size)); obtain ⟨y0, y1, y2, y3, y4, y5, y6, y7, y8, y9⟩ := HX.out.cells; clear hb)
                    | (go_at_call 108; (with_reducible refine (HWr.out _).mono ?_); rintro e u ⟨rfl, hb⟩; have HX := Lib.hid (HX.out.keep (hb.block w.heap.size HG.out)); have HG := Lib.hid (Nat.lt_of_lt_of_le HG.out hb.size); have HB := Lib.hid (HB.out.trans (hb.mono HB.out.size)); obtain ⟨y0, y1, y2, y3, y4, y5, y6, y7, y8, y9⟩ := HX.out.cells; clear hb)
                    | (go_at_call 109; (with_reducible refine (HSa.out _).mono ?_); rintro e u ⟨rfl, hb⟩; have HX := Lib.hid (HX.out.keep (hb.block w.heap.size HG.out)); have HG := Lib.hid (Nat.lt_of_lt_of_le HG.out hb.size); have HB := Lib.hid (HB.out.trans (hb.mono HB.out.size)); obtain ⟨y0, y1, y2, y3, y4, y5, y6, y7, y8, y9⟩ := HX.out.cells; clear hb))
                   refine wp_region_kp (by kernel_rfl) (by kernel_rfl) ?_
                   repeat (first
                    | go_big_quiet_skip
                    | (go_big_quiet_want
                       go_big_quiet_op
                       first
                        | go_big_quiet_on
                        | (apply Exists.intro
                           refine ⟨fun w1 hC => ?_, ?_⟩
                           · first
                              | (go_at_call 109; with_reducible first | exact hC.call (HSa.out _) | exact hC.call (HSb.out _))
                              | (go_simp; exact ⟨rfl, rfl⟩)
                              | (obtain ⟨y0, y1, y2, y3, y4, y5, y6, y7, y8, y9⟩ := (HX.out.keep (hC.block w.heap.size HG.out)).cells; go_simp; exact rfl)
                           go_big_quiet_on)))
                   refine wpQuiet_nil ?_
                   intro W1 hC
                   have HB := Lib.hid (HB.out.trans (hC.mono HB.out.size))
                   clear hC
                   go_wp2_with fail
                   go_ret
                   exact ⟨rfl, HB.out⟩
                 · have q3 : (sA != 3) = true := by simpa using e3
                   by_cases e1 : 1 < r
                   · rw [if_pos ⟨h8, .inr ⟨e3, e1⟩⟩]
                     clear h8 h9 eab e3
                     go_enter Tryz.func77, Tryz.ntmps77
                     go_upto_region 12 with (first
                      | (go_at_call 106; (with_reducible refine (HF.out _).mono ?_); rintro e u ⟨rfl, hb⟩; have HX := Lib.hid (HX.out.keep (hb.block w.heap.size HG.out)); have HG := Lib.hid (Nat.lt_of_lt_of_le HG.out hb.size); have HB := Lib.hid (HB.out.trans (hb.mono HB.out.size)); obtain ⟨y0, y1, y2, y3, y4, y5, y6, y7, y8, y9⟩ := HX.out.cells; clear hb)
                      | (go_at_call 107; (with_reducible refine (HK.out _).mono ?_); rintro e u ⟨rfl, hb⟩; have HX := Lib.hid (HX.out.keep (hb.block w.heap.size HG.out)); have HG := Lib.hid (Nat.lt_of_lt_of_le HG.out hb.size); have HB := Lib.hid (HB.out.trans (hb.mono HB.out.size)); obtain ⟨y0, y1, y2, y3, y4, y5, y6, y7, y8, y9⟩ := HX.out.cells; clear hb)
                      | (go_at_call 108; (with_reducible refine (HWa.out _).mono ?_); rintro e u ⟨rfl, hb⟩; have HX := Lib.hid (HX.out.keep (hb.block w.heap.size HG.out)); have HG := Lib.hid (Nat.lt_of_lt_of_le HG.out hb.size); have HB := Lib.hid (HB.out.trans (hb.mono HB.out.size)); obtain ⟨y0, y1, y2, y3, y4, y5, y6, y7, y8, y9⟩ := HX.out.cells; clear hb)
                      | (go_at_call 108; (with_reducible refine (HWb.out _).mono ?_); rintro e u ⟨rfl, hb⟩; have HX := Lib.hid (HX.out.keep (hb.block w.heap.size HG.out)); have HG := Lib.hid (Nat.lt_of_lt_of_le HG.out hb.size); have HB := Lib.hid (HB.out.trans (hb.mono HB.out.size)); obtain ⟨y0, y1, y2, y3, y4, y5, y6, y7, y8, y9⟩ := HX.out.cells; clear hb)
                      | (go_at_call 108; (with_reducible refine (HWr.out _).mono ?_); rintro e u ⟨rfl, hb⟩; have HX := Lib.hid (HX.out.keep (hb.block w.heap.size HG.out)); have HG := Lib.hid (Nat.lt_of_lt_of_le HG.out hb.size); have HB := Lib.hid (HB.out.trans (hb.mono HB.out.size)); obtain ⟨y0, y1, y2, y3, y4, y5, y6, y7, y8, y9⟩ := HX.out.cells; clear hb)
                      | (go_at_call 109; (with_reducible refine (HSa.out _).mono ?_); rintro e u ⟨rfl, hb⟩; have HX := Lib.hid (HX.out.keep (hb.block w.heap.size HG.out)); have HG := Lib.hid (Nat.lt_of_lt_of_le HG.out hb.size); have HB := Lib.hid (HB.out.trans (hb.mono HB.out.size)); obtain ⟨y0, y1, y2, y3, y4, y5, y6, y7, y8, y9⟩ := HX.out.cells; clear hb))
                     refine wp_region_kp (by kernel_rfl) (by kernel_rfl) ?_
                     repeat (first
                      | go_big_quiet_skip
                      | (go_big_quiet_want
                         go_big_quiet_op
                         first
                          | go_big_quiet_on
                          | (apply Exists.intro
                             refine ⟨fun w1 hC => ?_, ?_⟩
                             · first
                                | (go_at_call 109; with_reducible first | exact hC.call (HSa.out _) | exact hC.call (HSb.out _))
                                | (go_simp; exact ⟨rfl, rfl⟩)
                                | (obtain ⟨y0, y1, y2, y3, y4, y5, y6, y7, y8, y9⟩ := (HX.out.keep (hC.block w.heap.size HG.out)).cells; go_simp; exact rfl)
                             go_big_quiet_on)))
                     refine wpQuiet_nil ?_
                     intro W1 hC
                     have HB := Lib.hid (HB.out.trans (hC.mono HB.out.size))
                     clear hC
                     go_wp2_with fail
                     go_ret
                     exact ⟨rfl, HB.out⟩
                   · rw [if_neg (fun k => by omega)]
                     clear h8 h9 eab e3
                     go_enter Tryz.func77, Tryz.ntmps77
                     go_upto_region 12 with (first
                      | (go_at_call 106; (with_reducible refine (HF.out _).mono ?_); rintro e u ⟨rfl, hb⟩; have HX := Lib.hid (HX.out.keep (hb.block w.heap.size HG.out)); have HG := Lib.hid (Nat.lt_of_lt_of_le HG.out hb.size); have HB := Lib.hid (HB.out.trans (hb.mono HB.out.size)); obtain ⟨y0, y1, y2, y3, y4, y5, y6, y7, y8, y9⟩ := HX.out.cells; clear hb)
                      | (go_at_call 107; (with_reducible refine (HK.out _).mono ?_); rintro e u ⟨rfl, hb⟩; have HX := Lib.hid (HX.out.keep (hb.block w.heap.size HG.out)); have HG := Lib.hid (Nat.lt_of_lt_of_le HG.out hb.size); have HB := Lib.hid (HB.out.trans (hb.mono HB.out.size)); obtain ⟨y0, y1, y2, y3, y4, y5, y6, y7, y8, y9⟩ := HX.out.cells; clear hb)
                      | (go_at_call 108; (with_reducible refine (HWa.out _).mono ?_); rintro e u ⟨rfl, hb⟩; have HX := Lib.hid (HX.out.keep (hb.block w.heap.size HG.out)); have HG := Lib.hid (Nat.lt_of_lt_of_le HG.out hb.size); have HB := Lib.hid (HB.out.trans (hb.mono HB.out.size)); obtain ⟨y0, y1, y2, y3, y4, y5, y6, y7, y8, y9⟩ := HX.out.cells; clear hb)
                      | (go_at_call 108; (with_reducible refine (HWb.out _).mono ?_); rintro e u ⟨rfl, hb⟩; have HX := Lib.hid (HX.out.keep (hb.block w.heap.size HG.out)); have HG := Lib.hid (Nat.lt_of_lt_of_le HG.out hb.size); have HB := Lib.hid (HB.out.trans (hb.mono HB.out.size)); obtain ⟨y0, y1, y2, y3, y4, y5, y6, y7, y8, y9⟩ := HX.out.cells; clear hb)
                      | (go_at_call 108; (with_reducible refine (HWr.out _).mono ?_); rintro e u ⟨rfl, hb⟩; have HX := Lib.hid (HX.out.keep (hb.block w.heap.size HG.out)); have HG := Lib.hid (Nat.lt_of_lt_of_le HG.out hb.size); have HB := Lib.hid (HB.out.trans (hb.mono HB.out.size)); obtain ⟨y0, y1, y2, y3, y4, y5, y6, y7, y8, y9⟩ := HX.out.cells; clear hb)
                      | (go_at_call 109; (with_reducible refine (HSa.out _).mono ?_); rintro e u ⟨rfl, hb⟩; have HX := Lib.hid (HX.out.keep (hb.block w.heap.size HG.out)); have HG := Lib.hid (Nat.lt_of_lt_of_le HG.out hb.size); have HB := Lib.hid (HB.out.trans (hb.mono HB.out.size)); obtain ⟨y0, y1, y2, y3, y4, y5, y6, y7, y8, y9⟩ := HX.out.cells; clear hb))
                     refine wp_region_kp (by kernel_rfl) (by kernel_rfl) ?_
                     repeat (first
                      | go_big_quiet_skip
                      | (go_big_quiet_want
                         go_big_quiet_op
                         first
                          | go_big_quiet_on
                          | (apply Exists.intro
                             refine ⟨fun w1 hC => ?_, ?_⟩
                             · first
                                | (go_at_call 109; with_reducible first | exact hC.call (HSa.out _) | exact hC.call (HSb.out _))
                                | (go_simp; exact ⟨rfl, rfl⟩)
                                | (obtain ⟨y0, y1, y2, y3, y4, y5, y6, y7, y8, y9⟩ := (HX.out.keep (hC.block w.heap.size HG.out)).cells; go_simp; exact rfl)
                             go_big_quiet_on)))
                     refine wpQuiet_nil ?_
                     intro W1 hC
                     have HB := Lib.hid (HB.out.trans (hC.mono HB.out.size))
                     clear hC
                     go_wp2_with fail
                     go_ret
                     exact ⟨rfl, HB.out⟩
               · rw [if_pos ⟨h8, .inl eab⟩]
                 have qab : (sA != sB) = true := by simpa using eab
                 clear h8 h9 eab
                 go_enter Tryz.func77, Tryz.ntmps77
                 go_upto_region 12 with (first
                  | (go_at_call 106; (with_reducible refine (HF.out _).mono ?_); rintro e u ⟨rfl, hb⟩; have HX := Lib.hid (HX.out.keep (hb.block w.heap.size HG.out)); have HG := Lib.hid (Nat.lt_of_lt_of_le HG.out hb.size); have HB := Lib.hid (HB.out.trans (hb.mono HB.out.size)); obtain ⟨y0, y1, y2, y3, y4, y5, y6, y7, y8, y9⟩ := HX.out.cells; clear hb)
                  | (go_at_call 107; (with_reducible refine (HK.out _).mono ?_); rintro e u ⟨rfl, hb⟩; have HX := Lib.hid (HX.out.keep (hb.block w.heap.size HG.out)); have HG := Lib.hid (Nat.lt_of_lt_of_le HG.out hb.size); have HB := Lib.hid (HB.out.trans (hb.mono HB.out.size)); obtain ⟨y0, y1, y2, y3, y4, y5, y6, y7, y8, y9⟩ := HX.out.cells; clear hb)
                  | (go_at_call 108; (with_reducible refine (HWa.out _).mono ?_); rintro e u ⟨rfl, hb⟩; have HX := Lib.hid (HX.out.keep (hb.block w.heap.size HG.out)); have HG := Lib.hid (Nat.lt_of_lt_of_le HG.out hb.size); have HB := Lib.hid (HB.out.trans (hb.mono HB.out.size)); obtain ⟨y0, y1, y2, y3, y4, y5, y6, y7, y8, y9⟩ := HX.out.cells; clear hb)
                  | (go_at_call 108; (with_reducible refine (HWb.out _).mono ?_); rintro e u ⟨rfl, hb⟩; have HX := Lib.hid (HX.out.keep (hb.block w.heap.size HG.out)); have HG := Lib.hid (Nat.lt_of_lt_of_le HG.out hb.size); have HB := Lib.hid (HB.out.trans (hb.mono HB.out.size)); obtain ⟨y0, y1, y2, y3, y4, y5, y6, y7, y8, y9⟩ := HX.out.cells; clear hb)
                  | (go_at_call 108; (with_reducible refine (HWr.out _).mono ?_); rintro e u ⟨rfl, hb⟩; have HX := Lib.hid (HX.out.keep (hb.block w.heap.size HG.out)); have HG := Lib.hid (Nat.lt_of_lt_of_le HG.out hb.size); have HB := Lib.hid (HB.out.trans (hb.mono HB.out.size)); obtain ⟨y0, y1, y2, y3, y4, y5, y6, y7, y8, y9⟩ := HX.out.cells; clear hb)
                  | (go_at_call 109; (with_reducible refine (HSa.out _).mono ?_); rintro e u ⟨rfl, hb⟩; have HX := Lib.hid (HX.out.keep (hb.block w.heap.size HG.out)); have HG := Lib.hid (Nat.lt_of_lt_of_le HG.out hb.size); have HB := Lib.hid (HB.out.trans (hb.mono HB.out.size)); obtain ⟨y0, y1, y2, y3, y4, y5, y6, y7, y8, y9⟩ := HX.out.cells; clear hb))
                 refine wp_region_kp (by kernel_rfl) (by kernel_rfl) ?_
                 repeat (first
                  | go_big_quiet_skip
                  | (go_big_quiet_want
                     go_big_quiet_op
                     first
                      | go_big_quiet_on
                      | (apply Exists.intro
                         refine ⟨fun w1 hC => ?_, ?_⟩
                         · first
                            | (go_at_call 109; with_reducible first | exact hC.call (HSa.out _) | exact hC.call (HSb.out _))
                            | (go_simp; exact ⟨rfl, rfl⟩)
                            | (obtain ⟨y0, y1, y2, y3, y4, y5, y6, y7, y8, y9⟩ := (HX.out.keep (hC.block w.heap.size HG.out)).cells; go_simp; exact rfl)
                         go_big_quiet_on)))
                 refine wpQuiet_nil ?_
                 intro W1 hC
                 have HB := Lib.hid (HB.out.trans (hC.mono HB.out.size))
                 clear hC
                 go_wp2_with fail
                 go_ret
                 exact ⟨rfl, HB.out⟩
             · rw [if_neg (fun k => h8 k.1)]
               have p8 : (op == 8) = false := by simpa using h8
               clear h8 h9
               go_enter Tryz.func77, Tryz.ntmps77
               go_upto_region 12 with (first
                | (go_at_call 106; (with_reducible refine (HF.out _).mono ?_); rintro e u ⟨rfl, hb⟩; have HX := Lib.hid (HX.out.keep (hb.block w.heap.size HG.out)); have HG := Lib.hid (Nat.lt_of_lt_of_le HG.out hb.size); have HB := Lib.hid (HB.out.trans (hb.mono HB.out.size)); obtain ⟨y0, y1, y2, y3, y4, y5, y6, y7, y8, y9⟩ := HX.out.cells; clear hb)
                | (go_at_call 107; (with_reducible refine (HK.out _).mono ?_); rintro e u ⟨rfl, hb⟩; have HX := Lib.hid (HX.out.keep (hb.block w.heap.size HG.out)); have HG := Lib.hid (Nat.lt_of_lt_of_le HG.out hb.size); have HB := Lib.hid (HB.out.trans (hb.mono HB.out.size)); obtain ⟨y0, y1, y2, y3, y4, y5, y6, y7, y8, y9⟩ := HX.out.cells; clear hb)
                | (go_at_call 108; (with_reducible refine (HWa.out _).mono ?_); rintro e u ⟨rfl, hb⟩; have HX := Lib.hid (HX.out.keep (hb.block w.heap.size HG.out)); have HG := Lib.hid (Nat.lt_of_lt_of_le HG.out hb.size); have HB := Lib.hid (HB.out.trans (hb.mono HB.out.size)); obtain ⟨y0, y1, y2, y3, y4, y5, y6, y7, y8, y9⟩ := HX.out.cells; clear hb)
                | (go_at_call 108; (with_reducible refine (HWb.out _).mono ?_); rintro e u ⟨rfl, hb⟩; have HX := Lib.hid (HX.out.keep (hb.block w.heap.size HG.out)); have HG := Lib.hid (Nat.lt_of_lt_of_le HG.out hb.size); have HB := Lib.hid (HB.out.trans (hb.mono HB.out.size)); obtain ⟨y0, y1, y2, y3, y4, y5, y6, y7, y8, y9⟩ := HX.out.cells; clear hb)
                | (go_at_call 108; (with_reducible refine (HWr.out _).mono ?_); rintro e u ⟨rfl, hb⟩; have HX := Lib.hid (HX.out.keep (hb.block w.heap.size HG.out)); have HG := Lib.hid (Nat.lt_of_lt_of_le HG.out hb.size); have HB := Lib.hid (HB.out.trans (hb.mono HB.out.size)); obtain ⟨y0, y1, y2, y3, y4, y5, y6, y7, y8, y9⟩ := HX.out.cells; clear hb)
                | (go_at_call 109; (with_reducible refine (HSa.out _).mono ?_); rintro e u ⟨rfl, hb⟩; have HX := Lib.hid (HX.out.keep (hb.block w.heap.size HG.out)); have HG := Lib.hid (Nat.lt_of_lt_of_le HG.out hb.size); have HB := Lib.hid (HB.out.trans (hb.mono HB.out.size)); obtain ⟨y0, y1, y2, y3, y4, y5, y6, y7, y8, y9⟩ := HX.out.cells; clear hb))
               refine wp_region_kp (by kernel_rfl) (by kernel_rfl) ?_
               repeat (first
                | go_big_quiet_skip
                | (go_big_quiet_want
                   go_big_quiet_op
                   first
                    | go_big_quiet_on
                    | (apply Exists.intro
                       refine ⟨fun w1 hC => ?_, ?_⟩
                       · first
                          | (go_at_call 109; with_reducible first | exact hC.call (HSa.out _) | exact hC.call (HSb.out _))
                          | (go_simp; exact ⟨rfl, rfl⟩)
                          | (obtain ⟨y0, y1, y2, y3, y4, y5, y6, y7, y8, y9⟩ := (HX.out.keep (hC.block w.heap.size HG.out)).cells; go_simp; exact rfl)
                       go_big_quiet_on)))
               refine wpQuiet_nil ?_
               intro W1 hC
               have HB := Lib.hid (HB.out.trans (hC.mono HB.out.size))
               clear hC
               go_wp2_with fail
               go_ret
               exact ⟨rfl, HB.out⟩
end Go.Proofs.YtbhoofihnmmmfabGreat
