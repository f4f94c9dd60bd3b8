/- Decisions compared; the law CacheNil walked. -/
import Derived.Test.YtbhoofihnmmmfaaKcq
import Derived.Laws.StructEq
namespace Go.Proofs.Ytbhoofihnmmmfaa
open Go.RowKit Go.Maps Go.WideElems Go.WideShapes
def sameD (x y : Dc) : Bool := decide (x = y)
theorem eqD (x y : Dc) (w : World) :
    (Op.equalIn 10000 42 (.agg #[.int .u32 x.al, .int .u32 x.aa, .int .u32 x.ad, .bool x.pm, .int .i64 x.sq]) (.agg #[.int .u32 y.al, .int .u32 y.aa, .int .u32 y.ad, .bool y.pm, .int .i64 y.sq])).run Try.prog w = .ok (sameD x y) w := by
  have h := run_equalIn_struct (P := Try.prog) w 9999 42 #[.int .u32 x.al, .int .u32 x.aa, .int .u32 x.ad, .bool x.pm, .int .i64 x.sq] #[.int .u32 y.al, .int .u32 y.aa, .int .u32 y.ad, .bool y.pm, .int .i64 y.sq] (by kernel_rfl) (by kernel_rfl)
  rw [show (10000 : Nat) = 9999 + 1 from rfl, h]
  have u1 := Try.underlying33
  have a1 := Try.isAgg33
  have z1 := Try.sizeOf33
  have u2 := Try.underlying4
  have a2 := Try.isAgg4
  have z2 := Try.sizeOf4
  have u3 := Try.underlying3
  have a3 := Try.isAgg3
  have z3 := Try.sizeOf3
  clear h
  simp only [Program.fieldsOf, Try.underlying42]
  go_simp
  clear u1 a1 z1 u2 a2 z2 u3 a3 z3
  obtain ⟨p1, p2, p3, p4, p5⟩ := x
  obtain ⟨q1, q2, q3, q4, q5⟩ := y
  by_cases h1 : p1 = q1 <;> by_cases h2 : p2 = q2 <;> by_cases h3 : p3 = q3 <;> by_cases h4 : p4 = q4 <;> by_cases h5 : p5 = q5 <;> simp [h1, h2, h3, h4, h5, sameD]
theorem eqlD (x y : Dc) (w : World) : (binOp .eql 42 (.agg #[.int .u32 x.al, .int .u32 x.aa, .int .u32 x.ad, .bool x.pm, .int .i64 x.sq]) (.agg #[.int .u32 y.al, .int .u32 y.aa, .int .u32 y.ad, .bool y.pm, .int .i64 y.sq])).run Try.prog w = .ok (.bool (sameD x y)) w := by
  have h := eqD x y w
  simp only [binOp]
  simp [Op.equal, Op.maxDepth, h]
theorem neqD (x y : Dc) (w : World) : (binOp .neq 42 (.agg #[.int .u32 x.al, .int .u32 x.aa, .int .u32 x.ad, .bool x.pm, .int .i64 x.sq]) (.agg #[.int .u32 y.al, .int .u32 y.aa, .int .u32 y.ad, .bool y.pm, .int .i64 y.sq])).run Try.prog w = .ok (.bool (!sameD x y)) w := by
  have h := eqD x y w
  simp only [binOp]
  simp [Op.equal, Op.maxDepth, h]
set_option maxRecDepth 100000 in
set_option maxHeartbeats 16000000 in
theorem nil_c (x : Opr) (nn : Bool) (_ : WO x) (w : World) : Calls Try.prog 9 #[.agg #[.int .u8 x.kind, .int .i64 x.k.a, .int .i64 x.k.b, .int .i64 x.k.c, .int .u32 x.al, .int .i64 x.sq], .bool nn] w fun e w' => e = .returned (.bool true) ∧ Below w.heap.size w w' := by
  have HB : Hid (Below w.heap.size w ((w.alloc (.cells #[.int .u8 x.kind, .int .i64 x.k.a, .int .i64 x.k.b, .int .i64 x.k.c, .int .u32 x.al, .int .i64 x.sq] 35)).alloc (.cells #[.pointer none, .int .i64 0, .int .i64 0, .pointer none, .int .i64 0, .int .i64 0, .int .i64 0, .int .i64 0] 59))) := Lib.hid (((Below.refl _ _).alloc (Nat.le_refl _) _).alloc (by simp) _)
  have HN : Hid (Blk ((w.alloc (.cells #[.int .u8 x.kind, .int .i64 x.k.a, .int .i64 x.k.b, .int .i64 x.k.c, .int .u32 x.al, .int .i64 x.sq] 35)).alloc (.cells #[.pointer none, .int .i64 0, .int .i64 0, .pointer none, .int .i64 0, .int .i64 0, .int .i64 0, .int .i64 0] 59)) w.heap.size 35 #[.int .u8 x.kind, .int .i64 x.k.a, .int .i64 x.k.b, .int .i64 x.k.c, .int .u32 x.al, .int .i64 x.sq]) := Lib.hid ((Blk.here rfl).alloc _)
  have HV : Hid (Bad ((w.alloc (.cells #[.int .u8 x.kind, .int .i64 x.k.a, .int .i64 x.k.b, .int .i64 x.k.c, .int .u32 x.al, .int .i64 x.sq] 35)).alloc (.cells #[.pointer none, .int .i64 0, .int .i64 0, .pointer none, .int .i64 0, .int .i64 0, .int .i64 0, .int .i64 0] 59)) (.pointer (some ⟨w.heap.size + 1, 0, none⟩))) := Lib.hid (.inr ⟨_, _, _, _, _, _, _, _, rfl, Blk.here (by simp)⟩)
  go_enter Try.func9, Try.ntmps9
  go_upto_region 2 with fail
  generalize (w.alloc (.cells #[.int .u8 x.kind, .int .i64 x.k.a, .int .i64 x.k.b, .int .i64 x.k.c, .int .u32 x.al, .int .i64 x.sq] 35)).alloc (.cells #[.pointer none, .int .i64 0, .int .i64 0, .pointer none, .int .i64 0, .int .i64 0, .int .i64 0, .int .i64 0] 59) = W at *
  generalize w.heap.size + 1 = gc at *
  generalize hgx : w.heap.size = gx at *
  obtain ⟨k0, k1, k2, k3, k4, k5⟩ := HN.out.cells6
  have HNB : ∀ v, v = .pointer none ∨ v = .pointer (some ⟨gc, 0, none⟩) → Bad W v := by
    rintro v (rfl | rfl)
    · exact .inl rfl
    · exact HV.out
  have HNB := Lib.hid HNB
  cases nn
  all_goals
    go_upto_region 5 with (first | (go_at_call 18; refine (find_bad x.k (HNB.out _ (by simp))).mono ?_; rintro e w2 ⟨rfl, hb2⟩; have HB2 := Lib.hid hb2; clear hb2) | fail)
    have HB3 : Hid (Below W.heap.size W (w2.alloc (.cells #[.int .u32 0, .int .u32 0, .int .u32 0, .bool false, .int .i64 0] 42))) := Lib.hid (HB2.out.alloc HB2.out.size _)
    have HD3 : Hid (Blk (w2.alloc (.cells #[.int .u32 0, .int .u32 0, .int .u32 0, .bool false, .int .i64 0] 42)) w2.heap.size 42 #[.int .u32 0, .int .u32 0, .int .u32 0, .bool false, .int .i64 0]) := Lib.hid (Blk.new _ _ _)
    generalize w2.alloc (.cells #[.int .u32 0, .int .u32 0, .int .u32 0, .bool false, .int .i64 0] 42) = W3 at *
    generalize w2.heap.size = gd at *
    clear k0 k1 k2 k3 k4 k5
    have HN3 := Lib.hid (HN.out.keep HB3.out)
    have HINS : Hid (∀ v, v = .pointer none ∨ v = .pointer (some ⟨gc, 0, none⟩) → ∀ u, Kp W3 u → Calls Try.prog 19 #[v, .int .i64 x.k.a, .int .i64 x.k.b, .int .i64 x.k.c, .agg #[.int .u32 x.al, .int .u32 0, .int .u32 0, .bool false, .int .i64 x.sq]] u fun e w' => e = .returned (.int .i64 1) ∧ Below u.heap.size u w') := Lib.hid (fun v hv u hu => insert_bad x.k ⟨x.al, 0, 0, false, x.sq⟩ ((HNB.out v hv).keep (HB3.out.trans (Below.mono hu HB3.out.size))))
    refine wp_region_kp (by kernel_rfl) (by kernel_rfl) ?_
    repeat (first
      | go_big_quiet_skip
      | (go_big_quiet_want
         first
           | (go_big_quiet_op
              first
                | go_big_quiet_on
                | (apply Exists.intro
                   refine ⟨fun w1 hC => ?_, ?_⟩
                   · first
                       | (go_at_call 20; with_reducible exact hC.call (decision_c x _))
                       | (go_at_call 19; first | (with_reducible exact hC.call (HINS.out (.pointer none) (.inl rfl) _ hC)) | (with_reducible exact hC.call (HINS.out (.pointer (some ⟨gc, 0, none⟩)) (.inr rfl) _ hC)))
                       | (obtain ⟨k0, k1, k2, k3, k4, k5⟩ := (HN3.out.keep hC).cells6; go_simp; exact ⟨rfl, rfl⟩)
                       | (obtain ⟨k0, k1, k2, k3, k4, k5⟩ := (HN3.out.keep hC).cells6; go_simp; exact rfl)
                       | exact rfl
                       | (go_simp; exact ⟨rfl, rfl⟩)
                   go_big_quiet_on))))
    refine wpQuiet_nil ?_
    intro W4 hC4
    have HB4 : Hid (Below W.heap.size W W4) := Lib.hid (HB3.out.trans (Below.mono hC4 HB3.out.size))
    have HD4 := Lib.hid (HD3.out.keep hC4)
    obtain ⟨k0, k1, k2, k3, k4, k5⟩ := (HN3.out.keep hC4).cells6
    clear hC4
    go_upto_region 7 with (first | (go_at_call 26; refine (reset_bad x.sq ((HNB.out _ (by simp)).keep HB4.out)).mono ?_; rintro e w5 ⟨rfl, rfl⟩) | fail)
    clear k0 k1 k2 k3 k4 k5
    go_upto_region 8 with (first | (go_at_call 24; refine (stats_bad ((HNB.out _ (by simp)).keep HB4.out)).mono ?_; rintro e w6 ⟨rfl, rfl⟩) | fail)
    obtain ⟨d0, d1, d2, d3, d4, _⟩ := HD4.out.cells5
    have hq := fun u => eqlD Dc.z Dc.z u
    rw [show sameD Dc.z Dc.z = true from rfl] at hq
    simp only [Dc.z] at hq
    go_wp2_with (first
      | (go_at_call 17; refine (seq_bad ((HNB.out _ (by simp)).keep HB4.out)).mono ?_; rintro e w7 ⟨rfl, rfl⟩)
      | (go_at_call 23; refine (clen_bad ((HNB.out _ (by simp)).keep HB4.out)).mono ?_; rintro e w7 ⟨rfl, rfl⟩)
      | (go_at_call 22; refine (ckeys_bad ((HNB.out _ (by simp)).keep HB4.out)).mono ?_; rintro e w7 ⟨rfl, rfl⟩)
      | (go_at_call 16; refine (ccopy_bad ((HNB.out _ (by simp)).keep HB4.out)).mono ?_; rintro e w7 ⟨rfl, rfl⟩)
      | (go_at_call 10; refine (awake_c _).mono ?_; rintro e w8 ⟨rfl, hb8⟩))
    go_ret
    have hbw : Below w.heap.size w W := by rw [hgx]; exact HB.out
    have h1 := hbw.trans (HB4.out.mono hbw.size)
    exact ⟨rfl, h1.trans (hb8.mono h1.size)⟩
end Go.Proofs.Ytbhoofihnmmmfaa
