/- The laws' decision and play. -/
import Derived.Test.YtbhoofihnmmmfaaKcn
namespace Go.Proofs.Ytbhoofihnmmmfaa
open Go.RowKit Go.Maps Go.WideElems Go.WideShapes
theorem Blk.cells6 {w : World} {g : Nat} {t : TypeId} {a0 a1 a2 a3 a4 a5 : Value} (h : Blk w g t #[a0, a1, a2, a3, a4, a5]) :
    w.cell? ⟨g, 0, none⟩ = some a0 ∧ w.cell? ⟨g, 1, none⟩ = some a1 ∧ w.cell? ⟨g, 2, none⟩ = some a2 ∧ w.cell? ⟨g, 3, none⟩ = some a3 ∧ w.cell? ⟨g, 4, none⟩ = some a4 ∧ w.cell? ⟨g, 5, none⟩ = some a5 :=
  ⟨h.cell 0, h.cell 1, h.cell 2, h.cell 3, h.cell 4, h.cell 5⟩
section
variable {w w' : World} {F G : Nat → Prop} {c : Nat} {s : CS}
set_option maxRecDepth 100000 in
set_option maxHeartbeats 8000000 in
theorem decision_c (x : Opr) (w : World) : Calls Try.prog 20 #[.agg #[.int .u8 x.kind, .int .i64 x.k.a, .int .i64 x.k.b, .int .i64 x.k.c, .int .u32 x.al, .int .i64 x.sq]] w fun e w' => e = .returned (.agg #[.int .u32 x.al, .int .u32 0, .int .u32 0, .bool false, .int .i64 x.sq]) ∧ Below w.heap.size w w' := by
  have HB : Hid (Below w.heap.size w ((w.alloc (.cells #[.int .u8 x.kind, .int .i64 x.k.a, .int .i64 x.k.b, .int .i64 x.k.c, .int .u32 x.al, .int .i64 x.sq] 35)).alloc (.cells #[.int .u32 0, .int .u32 0, .int .u32 0, .bool false, .int .i64 0] 42))) := Lib.hid (((Below.refl _ _).alloc (Nat.le_refl _) _).alloc (by simp) _)
  have HN : Hid (Blk ((w.alloc (.cells #[.int .u8 x.kind, .int .i64 x.k.a, .int .i64 x.k.b, .int .i64 x.k.c, .int .u32 x.al, .int .i64 x.sq] 35)).alloc (.cells #[.int .u32 0, .int .u32 0, .int .u32 0, .bool false, .int .i64 0] 42)) w.heap.size 35 #[.int .u8 x.kind, .int .i64 x.k.a, .int .i64 x.k.b, .int .i64 x.k.c, .int .u32 x.al, .int .i64 x.sq]) := Lib.hid ((Blk.here rfl).alloc _)
  have HV : Hid (Blk ((w.alloc (.cells #[.int .u8 x.kind, .int .i64 x.k.a, .int .i64 x.k.b, .int .i64 x.k.c, .int .u32 x.al, .int .i64 x.sq] 35)).alloc (.cells #[.int .u32 0, .int .u32 0, .int .u32 0, .bool false, .int .i64 0] 42)) (w.heap.size + 1) 42 #[.int .u32 0, .int .u32 0, .int .u32 0, .bool false, .int .i64 0]) := Lib.hid (Blk.here (by simp))
  go_enter Try.func20, Try.ntmps20
  go_upto_region 1 with fail
  generalize (w.alloc (.cells #[.int .u8 x.kind, .int .i64 x.k.a, .int .i64 x.k.b, .int .i64 x.k.c, .int .u32 x.al, .int .i64 x.sq] 35)).alloc (.cells #[.int .u32 0, .int .u32 0, .int .u32 0, .bool false, .int .i64 0] 42) = W at *
  have HGY : Hid (w.heap.size < w.heap.size + 1) := Lib.hid (Nat.lt_succ_self _)
  generalize w.heap.size + 1 = gy at *
  generalize hgx : w.heap.size = gx at *
  obtain ⟨k0, k1, k2, k3, k4, k5⟩ := HN.out.cells6
  obtain ⟨r0, r1, r2, r3, r4, f0, f1, f2, f3, f4⟩ := HV.out.cells5
  have HA : Hid (Below gx w (((((W.setCell ⟨gy, 0, none⟩ (.int .u32 x.al)).setCell ⟨gy, 1, none⟩ (.int .u32 0)).setCell ⟨gy, 2, none⟩ (.int .u32 0)).setCell ⟨gy, 3, none⟩ (.bool false)).setCell ⟨gy, 4, none⟩ (.int .i64 x.sq))) := Lib.hid (by
    have h1 : Apart (fun _ => False) w W := Apart.of (by rw [hgx]; exact HB.out)
    rw [← hgx]
    exact (apart_set5 h1 (.inr (by rw [hgx]; exact Nat.le_of_lt HGY.out)) _ _ _ _ _).to_below)
  have HS := Lib.hid (HV.out.set5 (.int .u32 x.al) (.int .u32 0) (.int .u32 0) (.bool false) (.int .i64 x.sq))
  go_wp2_with fail
  clear r0 r1 r2 r3 r4 f0 f1 f2 f3 f4 k0 k1 k2 k3 k4 k5
  generalize ((((W.setCell ⟨gy, 0, none⟩ (.int .u32 x.al)).setCell ⟨gy, 1, none⟩ (.int .u32 0)).setCell ⟨gy, 2, none⟩ (.int .u32 0)).setCell ⟨gy, 3, none⟩ (.bool false)).setCell ⟨gy, 4, none⟩ (.int .i64 x.sq) = W5 at *
  obtain ⟨r0, r1, r2, r3, r4, _⟩ := HS.out.cells5
  refine bodyPost_ret (v := .agg #[.int .u32 x.al, .int .u32 0, .int .u32 0, .bool false, .int .i64 x.sq]) (by simp [results, Try.results20, go_sem, r0, r1, r2, r3, r4]) rfl ⟨rfl, by rw [hgx]; exact HA.out⟩
set_option maxRecDepth 100000 in
set_option maxHeartbeats 8000000 in
theorem play_c {n : Nat} (x : Opr) (h : CF w F c s) (hs : Sm n s) (hn : n ≤ 1000000) (hok : OkC s) (wx : WO x) (hl : s.L.length ≤ 100000) :
    Calls Try.prog 15 #[.pointer (some ⟨c, 0, none⟩), .agg #[.int .u8 x.kind, .int .i64 x.k.a, .int .i64 x.k.b, .int .i64 x.k.c, .int .u32 x.al, .int .i64 x.sq]] w fun e w' => e = .returned (.tuple #[]) ∧ CTo w w' F c (doC s x) := by
  have HB : Hid (Below w.heap.size w (w.alloc (.cells #[.int .u8 x.kind, .int .i64 x.k.a, .int .i64 x.k.b, .int .i64 x.k.c, .int .u32 x.al, .int .i64 x.sq] 35))) := Lib.hid ((Below.refl _ _).alloc (Nat.le_refl _) _)
  have HN := Lib.hid (Blk.new w 35 #[.int .u8 x.kind, .int .i64 x.k.a, .int .i64 x.k.b, .int .i64 x.k.c, .int .u32 x.al, .int .i64 x.sq])
  have HC := Lib.hid (h.keep HB.out)
  have HF := Lib.hid (find_c x.k HC.out hs hn wx.k)
  have HR := Lib.hid (reset_c x.sq HC.out hs hn)
  have HI : Hid (∀ u, Kp (w.alloc (.cells #[.int .u8 x.kind, .int .i64 x.k.a, .int .i64 x.k.b, .int .i64 x.k.c, .int .u32 x.al, .int .i64 x.sq] 35)) u → Calls Try.prog 19 #[.pointer (some ⟨c, 0, none⟩), .int .i64 x.k.a, .int .i64 x.k.b, .int .i64 x.k.c, .agg #[.int .u32 x.al, .int .u32 0, .int .u32 0, .bool false, .int .i64 x.sq]] u fun e w' => e = .returned (.int .i64 (staleE x.sq s.seq)) ∧ CTo u w' F c (insC s x.k x.d)) := Lib.hid (fun u hu => insert_c x.k x.d (HC.out.keep hu) hs hn hok wx.k hl)
  have hk0 := wx.kind.1
  have hk1 := wx.kind.2
  -- from the world with the box to the world ahead
  have HT : Hid (∀ u u' s', Kp (w.alloc (.cells #[.int .u8 x.kind, .int .i64 x.k.a, .int .i64 x.k.b, .int .i64 x.k.c, .int .u32 x.al, .int .i64 x.sq] 35)) u → CTo u u' F c s' → CTo w u' F c s') := Lib.hid (fun u u' s' hu h => by
    have hb : Below w.heap.size w u := HB.out.trans (Below.mono hu HB.out.size)
    obtain ⟨⟨F', h1, h2⟩, h3⟩ := h
    refine ⟨⟨F', h1, fun k hk => ?_⟩, (Apart.of hb).trans h3 (fun k hk => .inl hk)⟩
    rcases h2 k hk with h | h
    · exact .inl h
    · exact .inr (Nat.le_trans hb.size h))
  have HD0 : Hid (x.kind % 3 = 0 → doC s x = findC s x.k) := Lib.hid (fun e => by unfold doC; rw [if_pos e])
  have HD1 : Hid (x.kind % 3 = 1 → doC s x = insC s x.k x.d) := Lib.hid (fun e => by unfold doC; rw [if_neg (by omega), if_pos e])
  have HD2 : Hid (¬ x.kind % 3 = 0 → ¬ x.kind % 3 = 1 → doC s x = resC s x.sq) := Lib.hid (fun e e' => by unfold doC; rw [if_neg e, if_neg e'])
  have hm0 : 0 ≤ x.kind % 3 := by omega
  have hm1 : x.kind % 3 < 3 := by omega
  have ht : x.kind.tmod 3 = x.kind % 3 := Int.tmod_eq_emod_of_nonneg hk0
  clear h hs hok hl
  go_enter Try.func15, Try.ntmps15
  go_upto_region 3 with fail
  generalize w.alloc (.cells #[.int .u8 x.kind, .int .i64 x.k.a, .int .i64 x.k.b, .int .i64 x.k.c, .int .u32 x.al, .int .i64 x.sq] 35) = W at *
  generalize w.heap.size = gx at *
  obtain ⟨k0, k1, k2, k3, k4, k5⟩ := HN.out.cells6
  clear ht
  generalize x.kind % 3 = j at *
  by_cases h0 : j = 0
  · subst h0
    go_wp2_with (go_at_call 18; refine HF.out.mono ?_; rintro e w2 ⟨rfl, h2⟩)
    refine bodyPost_end (v := .tuple #[]) (by simp [results, Try.results15, go_sem]) rfl ⟨rfl, ?_⟩
    rw [HD0.out (by first | rfl | trivial)]
    exact HT.out _ _ _ Kp.rfl' h2
  · have hq0 : (j == 0) = false := by simpa using h0
    by_cases h1 : j = 1
    · subst h1
      go_upto_region 6 with fail
      clear k0 k1 k2 k3 k4 k5
      refine wp_region_kt 9 (by kernel_rfl) (by kernel_rfl) ?_
      simp only [List.take_succ_cons, List.take_zero, List.drop_succ_cons, List.drop_zero]
      repeat (first
        | go_big_quiet_skip
        | (go_big_quiet_want
           first
             | (go_big_quiet_op
                first
                  | go_big_quiet_on
                  | (apply Exists.intro
                     refine ⟨fun w1 hC => ?_, ?_⟩
                     · first
                         | (go_at_call 20; with_reducible exact hC.call (decision_c x _))
                         | (obtain ⟨k0, k1, k2, k3, k4, k5⟩ := (HN.out.keep hC).cells6; go_simp; exact ⟨rfl, rfl⟩)
                         | (obtain ⟨k0, k1, k2, k3, k4, k5⟩ := (HN.out.keep hC).cells6; go_simp; exact rfl)
                         | exact rfl
                         | (go_simp; exact ⟨rfl, rfl⟩)
                     go_big_quiet_on))))
      refine wpQuiet_nil ?_
      intro W3 hC3
      have HC3 := Lib.hid hC3
      clear hC3
      go_wp2_with (go_at_call 19; refine (HI.out _ HC3.out).mono ?_; rintro e w2 ⟨rfl, h2⟩)
      refine bodyPost_end (v := .tuple #[]) (by simp [results, Try.results15, go_sem]) rfl ⟨rfl, ?_⟩
      rw [HD1.out (by first | rfl | trivial)]
      exact HT.out _ _ _ HC3.out h2
    · have hq1 : (j == 1) = false := by simpa using h1
      go_wp2_with (go_at_call 26; refine HR.out.mono ?_; rintro e w2 ⟨rfl, h2⟩)
      refine bodyPost_end (v := .tuple #[]) (by simp [results, Try.results15, go_sem]) rfl ⟨rfl, ?_⟩
      rw [HD2.out (by first | exact h0 | trivial) (by first | exact h1 | trivial)]
      exact HT.out _ _ _ Kp.rfl' h2
end
end Go.Proofs.Ytbhoofihnmmmfaa
