/- The reference's AliasOf. -/
import Derived.Test.YtffgjamnijhlpaaSyp
namespace Go.Proofs.Ytffgjamnijhlpaa
open Go.RowKit Go.Maps Go.Sort
theorem one_pair (l : List (ByteArray × Int)) : ∀ u ∈ l.flatMap aCells, u.oneCell' = true := by
  intro u hu
  obtain ⟨p, _, hp⟩ := List.mem_flatMap.1 hu
  simp [aCells] at hp
  rcases hp with rfl | rfl <;> rfl
section
variable {w w' : World} {F G : Nat → Prop} {v : Value} {limit : Nat} {names : List ByteArray} {E als : List (ByteArray × Int)}
set_option maxRecDepth 100000 in
set_option maxHeartbeats 2000000 in
theorem rali_name (s : ByteArray) (n : Int) (h : RS w G v limit names als) (hi : identB s = false) (hs : s.size ≤ 9223372036854775807) :
    Calls Try.prog 27 #[v, .string s, .int .i64 n] w fun e w' => e = .returned (.tuple #[v, .int .i64 10]) ∧ Below w.heap.size w w' := by
  obtain ⟨vn, va, rfl, hS, hA⟩ := h.strs
  obtain ⟨ao, cap, rfl, hN⟩ := id hS
  obtain ⟨ao2, cap2, rfl, hM⟩ := id hA
  obtain ⟨B1, B2, hW, hz⟩ := two_states w (.int .i64 limit) (.slice ao names.length cap) (.slice ao2 als.length cap2) (.int .i64 0) (.slice none 0 0) (.slice none 0 0)
  have HI := Lib.hid (fun w => rIdent_c s w hs)
  rw [hi] at HI
  have HS := Lib.hid hS
  have HA := Lib.hid hA
  clear h hS hA hN hM hi
  go_enter Try.func27, Try.ntmps27
  go_wp2_with fail
  generalize (w.alloc (.cells #[.int .i64 limit, .slice ao names.length cap, .slice ao2 als.length cap2] 28)).alloc (.cells #[.int .i64 0, .slice none 0 0, .slice none 0 0] 28) = W at *
  obtain ⟨p0, p1, p2, _⟩ := B1.cells3
  obtain ⟨t0, t1, t2, t3, t4, t5⟩ := B2.cells3
  have HW := Lib.hid hW
  have HB1 := Lib.hid B1
  have HB2 := Lib.hid B2
  clear hW B1 B2
  go_wp2_with ((go_at_call 36; refine (HI.out _).mono ?_; rintro e w1 ⟨rfl, rfl⟩))
  exact bodyPost_ret (v := .tuple #[.agg #[.int .i64 limit, .slice ao names.length cap, .slice ao2 als.length cap2], .int .i64 10]) (by obtain ⟨r0, r1, r2⟩ := (HB2.out.set3 (.int .i64 limit) (.slice ao names.length cap) (.slice ao2 als.length cap2)).box3; simp [results, Try.results27, go_sem, r0, r1, r2]) rfl ⟨rfl, below_set3 HW.out (by omega) _ _ _⟩
set_option maxRecDepth 100000 in
set_option maxHeartbeats 2000000 in
theorem rali_range (s : ByteArray) (n : Int) (h : RS w G v limit names als) (hi : identB s = true) (hn : n < 0 ∨ (names.length : Int) ≤ n) (hs : s.size ≤ 9223372036854775807) :
    Calls Try.prog 27 #[v, .string s, .int .i64 n] w fun e w' => e = .returned (.tuple #[v, .int .i64 3]) ∧ Below w.heap.size w w' := by
  obtain ⟨vn, va, rfl, hS, hA⟩ := h.strs
  obtain ⟨ao, cap, rfl, hN⟩ := id hS
  obtain ⟨ao2, cap2, rfl, hM⟩ := id hA
  obtain ⟨B1, B2, hW, hz⟩ := two_states w (.int .i64 limit) (.slice ao names.length cap) (.slice ao2 als.length cap2) (.int .i64 0) (.slice none 0 0) (.slice none 0 0)
  have HI := Lib.hid (fun w => rIdent_c s w hs)
  rw [hi] at HI
  have HS := Lib.hid hS
  have HA := Lib.hid hA
  clear h hS hA hN hM hi
  by_cases h0 : n < 0
  · go_enter Try.func27, Try.ntmps27
    go_wp2_with fail
    generalize (w.alloc (.cells #[.int .i64 limit, .slice ao names.length cap, .slice ao2 als.length cap2] 28)).alloc (.cells #[.int .i64 0, .slice none 0 0, .slice none 0 0] 28) = W at *
    obtain ⟨p0, p1, p2, _⟩ := B1.cells3
    obtain ⟨t0, t1, t2, t3, t4, t5⟩ := B2.cells3
    have HW := Lib.hid hW
    have HB1 := Lib.hid B1
    have HB2 := Lib.hid B2
    clear hW B1 B2
    go_wp2_with ((go_at_call 36; refine (HI.out _).mono ?_; rintro e w1 ⟨rfl, rfl⟩))
    exact bodyPost_ret (v := .tuple #[.agg #[.int .i64 limit, .slice ao names.length cap, .slice ao2 als.length cap2], .int .i64 3]) (by obtain ⟨r0, r1, r2⟩ := (HB2.out.set3 (.int .i64 limit) (.slice ao names.length cap) (.slice ao2 als.length cap2)).box3; simp [results, Try.results27, go_sem, r0, r1, r2]) rfl ⟨rfl, below_set3 HW.out (by omega) _ _ _⟩
  · have h1 : (names.length : Int) ≤ n := by omega
    go_enter Try.func27, Try.ntmps27
    go_wp2_with fail
    generalize (w.alloc (.cells #[.int .i64 limit, .slice ao names.length cap, .slice ao2 als.length cap2] 28)).alloc (.cells #[.int .i64 0, .slice none 0 0, .slice none 0 0] 28) = W at *
    obtain ⟨p0, p1, p2, _⟩ := B1.cells3
    obtain ⟨t0, t1, t2, t3, t4, t5⟩ := B2.cells3
    have HW := Lib.hid hW
    have HB1 := Lib.hid B1
    have HB2 := Lib.hid B2
    clear hW B1 B2
    go_wp2_with ((go_at_call 36; refine (HI.out _).mono ?_; rintro e w1 ⟨rfl, rfl⟩))
    exact bodyPost_ret (v := .tuple #[.agg #[.int .i64 limit, .slice ao names.length cap, .slice ao2 als.length cap2], .int .i64 3]) (by obtain ⟨r0, r1, r2⟩ := (HB2.out.set3 (.int .i64 limit) (.slice ao names.length cap) (.slice ao2 als.length cap2)).box3; simp [results, Try.results27, go_sem, r0, r1, r2]) rfl ⟨rfl, below_set3 HW.out (by omega) _ _ _⟩
set_option maxRecDepth 100000 in
set_option maxHeartbeats 2000000 in
theorem rali_twice (s : ByteArray) (n : Int) (h : RS w G v limit names als) (h0 : ¬ n < 0) (h1 : ¬ (names.length : Int) ≤ n) (hi : identB s = true) (hn : (Keys (Fe names als)).Nodup) (hh : hasE (Fe names als) s = true) (hl : names.length ≤ 4096) (ha : als.length ≤ 4096) (hs : s.size ≤ 9223372036854775807) :
    Calls Try.prog 27 #[v, .string s, .int .i64 n] w fun e w' => e = .returned (.tuple #[v, .int .i64 12]) ∧ Below w.heap.size w w' := by
  obtain ⟨vn, va, rfl, hS, hA⟩ := h.strs
  obtain ⟨ao, cap, rfl, hN⟩ := id hS
  obtain ⟨ao2, cap2, rfl, hM⟩ := id hA
  obtain ⟨B1, B2, hW, hz⟩ := two_states w (.int .i64 limit) (.slice ao names.length cap) (.slice ao2 als.length cap2) (.int .i64 0) (.slice none 0 0) (.slice none 0 0)
  have HI := Lib.hid (fun w => rIdent_c s w hs)
  rw [hi] at HI
  have HS := Lib.hid hS
  have HA := Lib.hid hA
  have HF := Lib.hid (fun (W : World) (hb : Below w.heap.size w W) => rfind_c (w := W) (limit := limit) s (hS.keep hb) (hA.keep hb) hn (by omega) (by omega))
  have HH := Lib.hid hh
  clear hn hh
  clear h hS hA hN hM hi
  go_enter Try.func27, Try.ntmps27
  go_wp2_with fail
  generalize (w.alloc (.cells #[.int .i64 limit, .slice ao names.length cap, .slice ao2 als.length cap2] 28)).alloc (.cells #[.int .i64 0, .slice none 0 0, .slice none 0 0] 28) = W at *
  obtain ⟨p0, p1, p2, _⟩ := B1.cells3
  obtain ⟨t0, t1, t2, t3, t4, t5⟩ := B2.cells3
  have HW := Lib.hid hW
  have HB1 := Lib.hid B1
  have HB2 := Lib.hid B2
  clear hW B1 B2
  go_wp2_with (first
    | (go_at_call 36; refine (HI.out _).mono ?_; rintro e w1 ⟨rfl, rfl⟩)
    | (go_at_call 15; refine (HF.out _ HW.out).mono ?_; rintro e w3 ⟨rfl, hb3⟩
       rw [HH.out]
       have C1 := HB1.out.keep hb3
       have C2 := HB2.out.keep hb3
       obtain ⟨p0', p1', p2', _⟩ := C1.cells3
       obtain ⟨t0', t1', t2', t3', t4', t5'⟩ := C2.cells3
       have D2 := Lib.hid C2
       clear C1 C2))
  exact bodyPost_ret (v := .tuple #[.agg #[.int .i64 limit, .slice ao names.length cap, .slice ao2 als.length cap2], .int .i64 12]) (by obtain ⟨r0, r1, r2⟩ := (D2.out.set3 (.int .i64 limit) (.slice ao names.length cap) (.slice ao2 als.length cap2)).box3; simp [results, Try.results27, go_sem, r0, r1, r2]) rfl ⟨rfl, below_set3 (HW.out.trans (hb3.mono HW.out.size)) (by omega) _ _ _⟩
set_option maxRecDepth 100000 in
set_option maxHeartbeats 2000000 in
theorem rali_full (s : ByteArray) (n : Int) (h : RS w G v limit names als) (h0 : ¬ n < 0) (h1 : ¬ (names.length : Int) ≤ n) (hi : identB s = true) (hn : (Keys (Fe names als)).Nodup) (hh : hasE (Fe names als) s = false) (hl : names.length ≤ 4096) (ha : als.length ≤ 4096) (hf : 4096 ≤ als.length) (hs : s.size ≤ 9223372036854775807) :
    Calls Try.prog 27 #[v, .string s, .int .i64 n] w fun e w' => e = .returned (.tuple #[v, .int .i64 25]) ∧ Below w.heap.size w w' := by
  obtain ⟨vn, va, rfl, hS, hA⟩ := h.strs
  obtain ⟨ao, cap, rfl, hN⟩ := id hS
  obtain ⟨ao2, cap2, rfl, hM⟩ := id hA
  obtain ⟨B1, B2, hW, hz⟩ := two_states w (.int .i64 limit) (.slice ao names.length cap) (.slice ao2 als.length cap2) (.int .i64 0) (.slice none 0 0) (.slice none 0 0)
  have HI := Lib.hid (fun w => rIdent_c s w hs)
  rw [hi] at HI
  have HS := Lib.hid hS
  have HA := Lib.hid hA
  have HF := Lib.hid (fun (W : World) (hb : Below w.heap.size w W) => rfind_c (w := W) (limit := limit) s (hS.keep hb) (hA.keep hb) hn (by omega) (by omega))
  have HH := Lib.hid hh
  clear hn hh
  clear h hS hA hN hM hi
  go_enter Try.func27, Try.ntmps27
  go_wp2_with fail
  generalize (w.alloc (.cells #[.int .i64 limit, .slice ao names.length cap, .slice ao2 als.length cap2] 28)).alloc (.cells #[.int .i64 0, .slice none 0 0, .slice none 0 0] 28) = W at *
  obtain ⟨p0, p1, p2, _⟩ := B1.cells3
  obtain ⟨t0, t1, t2, t3, t4, t5⟩ := B2.cells3
  have HW := Lib.hid hW
  have HB1 := Lib.hid B1
  have HB2 := Lib.hid B2
  clear hW B1 B2
  have hf2 : (4096 : Int) ≤ (als.length : Int) := by omega
  go_wp2_with (first
    | (go_at_call 36; refine (HI.out _).mono ?_; rintro e w1 ⟨rfl, rfl⟩)
    | (go_at_call 15; refine (HF.out _ HW.out).mono ?_; rintro e w3 ⟨rfl, hb3⟩
       rw [HH.out]
       have C1 := HB1.out.keep hb3
       have C2 := HB2.out.keep hb3
       obtain ⟨p0', p1', p2', _⟩ := C1.cells3
       obtain ⟨t0', t1', t2', t3', t4', t5'⟩ := C2.cells3
       have D2 := Lib.hid C2
       clear C1 C2))
  exact bodyPost_ret (v := .tuple #[.agg #[.int .i64 limit, .slice ao names.length cap, .slice ao2 als.length cap2], .int .i64 25]) (by obtain ⟨r0, r1, r2⟩ := (D2.out.set3 (.int .i64 limit) (.slice ao names.length cap) (.slice ao2 als.length cap2)).box3; simp [results, Try.results27, go_sem, r0, r1, r2]) rfl ⟨rfl, below_set3 (HW.out.trans (hb3.mono HW.out.size)) (by omega) _ _ _⟩
set_option maxRecDepth 100000 in
set_option maxHeartbeats 4000000 in
theorem rali_ok (s : ByteArray) (n : Int) (h : RS w G v limit names als) (h0 : ¬ n < 0) (h1 : ¬ (names.length : Int) ≤ n) (hi : identB s = true) (hn : (Keys (Fe names als)).Nodup) (hh : hasE (Fe names als) s = false) (hl : names.length ≤ 4096) (ha : als.length ≤ 4096) (hf : als.length < 4096) (hs : s.size ≤ 9223372036854775807) :
    Calls Try.prog 27 #[v, .string s, .int .i64 n] w fun e w' => ∃ v', e = .returned (.tuple #[v', .int .i64 0]) ∧ RS w' (fun k => G k ∨ w.heap.size ≤ k) v' limit names (als ++ [(s, n)]) ∧ Below w.heap.size w w' := by
  obtain ⟨i0, hin, hz0, hz1, hz2⟩ := info_parts infoA
  have h00 := h
  obtain ⟨vn, va, hv, r1, r2, g1, g2⟩ := h00
  obtain ⟨vn', va', hv', hS, hA⟩ := h.strs
  rw [hv] at hv'
  obtain ⟨rfl, rfl⟩ : vn = vn' ∧ va = va' := by simpa using hv'
  clear hv' h
  subst hv
  obtain ⟨ao, cap, rfl, hN⟩ := id hS
  obtain ⟨ao2, cap2, rfl, hM⟩ := id hA
  obtain ⟨B1, B2, hW, hz⟩ := two_states w (.int .i64 limit) (.slice ao names.length cap) (.slice ao2 als.length cap2) (.int .i64 0) (.slice none 0 0) (.slice none 0 0)
  have HI := Lib.hid (fun w => rIdent_c s w hs)
  rw [hi] at HI
  have HF := Lib.hid (fun (W : World) (hb : Below w.heap.size w W) => rfind_c (w := W) (limit := limit) s (hS.keep hb) (hA.keep hb) hn (by omega) (by omega))
  have HH := Lib.hid hh
  have hf2 : ¬ ((4096 : Int) ≤ (als.length : Int)) := by omega
  have R1 := Lib.hid r1
  have R2 := Lib.hid r2
  have G1 := Lib.hid g1
  have G2 := Lib.hid g2
  clear hS hA hN hM hi hn hh r1 r2 g1 g2
  go_enter Try.func27, Try.ntmps27
  go_wp2_with fail
  generalize (w.alloc (.cells #[.int .i64 limit, .slice ao names.length cap, .slice ao2 als.length cap2] 28)).alloc (.cells #[.int .i64 0, .slice none 0 0, .slice none 0 0] 28) = W at *
  obtain ⟨p0, p1, p2, _⟩ := B1.cells3
  have HW := Lib.hid hW
  have HB1 := Lib.hid B1
  have HB2 := Lib.hid B2
  have HZ := Lib.hid hz
  clear hW B1 B2 hz
  go_wp2_with (first
    | (go_at_call 36; refine (HI.out _).mono ?_; rintro e w1 ⟨rfl, rfl⟩)
    | (go_at_call 15; refine (HF.out _ HW.out).mono ?_; rintro e w3 ⟨rfl, hb3⟩
       rw [HH.out]
       obtain ⟨p0', p1', p2', _⟩ := (HB1.out.keep hb3).cells3
       have hsz3 : w.heap.size + 1 < w3.heap.size := by have := hb3.size; have := HZ.out; omega
       have qN : ∀ o1 o2, ((w3.alloc o1).alloc o2).cell? ⟨w.heap.size, 2, none⟩ = some (.slice ao2 als.length cap2) := fun o1 o2 => (((HB1.out.keep hb3).alloc o1).alloc o2).cell 2)
    | (at_builtin
       have hb4 : Below w.heap.size w ((w3.alloc (.cells #[.int .i64 limit, .slice ao names.length cap, .slice ao2 als.length cap2] 28)).alloc (.cells #[] 68)) := ((HW.out.trans (hb3.mono HW.out.size)).alloc (by omega) _).alloc (by simp; omega) _
       have hE : ((w3.alloc (.cells #[.int .i64 limit, .slice ao names.length cap, .slice ao2 als.length cap2] 28)).alloc (.cells #[] 68)).ownsRow w.heap.size 68 2 (.slice (some ⟨w3.heap.size + 1, 0, none⟩) 0 0) 0 [] := by
         have := row_empty (w3.alloc (.cells #[.int .i64 limit, .slice ao names.length cap, .slice ao2 als.length cap2] 28)) 68 2 w.heap.size (by simp; omega)
         simpa using this
       refine wpList_append_rows rfl _ _ 26 rfl w.heap.size 68 i0 (.agg #[.string ⟨#[]⟩, .int .i64 0]) 2 24 Try.underlying26 hin hz0 hz1 hz2 rfl (by decide) _ 0 [] rfl hE _ als.length (als.flatMap aCells) 0 rfl (row_below R2.out hb4) (one_pair _) ?c1 ?c2 ?c3 ?_))
  case c1 => unfold maxLen; omega
  case c2 => omega
  case c3 => exact hb4.size
  intro v5 w5 hown5 hg5
  have B9 : Blk ((w3.alloc (.cells #[.int .i64 limit, .slice ao names.length cap, .slice ao2 als.length cap2] 28)).alloc (.cells #[] 68)) w3.heap.size 28 _ := (Blk.new w3 28 #[.int .i64 limit, .slice ao names.length cap, .slice ao2 als.length cap2]).alloc _
  have B1 := (((HB1.out.keep hb3).alloc (.cells #[.int .i64 limit, .slice ao names.length cap, .slice ao2 als.length cap2] 28)).alloc (.cells #[] 68))
  have B2 := (((HB2.out.keep hb3).alloc (.cells #[.int .i64 limit, .slice ao names.length cap, .slice ao2 als.length cap2] 28)).alloc (.cells #[] 68))
  have HZ4 : ((w3.alloc (.cells #[.int .i64 limit, .slice ao names.length cap, .slice ao2 als.length cap2] 28)).alloc (.cells #[] 68)).heap.size = w3.heap.size + 2 := by simp
  have hgl5 := World.ownsRow.lt hown5
  have C9 : Blk w5 w3.heap.size 28 _ := B9.grown hg5 (by simp [Value.ownBlock])
  have C1 : Blk w5 w.heap.size 28 _ := B1.grown hg5 (by simp [Value.ownBlock]; omega)
  have C2 : Blk w5 (w.heap.size + 1) 28 _ := B2.grown hg5 (by simp [Value.ownBlock]; omega)
  have hb5 : Below w.heap.size w w5 := hb4.grown hg5 hb4.size (fun k hk => by simp [Value.ownBlock] at hk; omega)
  have HO5 := Lib.hid hown5
  have D9 := Lib.hid C9
  have D2 := Lib.hid C2
  have D1 := Lib.hid C1
  have hz5 : w3.heap.size + 2 ≤ w5.heap.size := by have := hg5.size; omega
  clear hown5 hg5 C9 C2 C1 B9 B2 B1 hE hb4 p0' p1' p2' HZ4 qN
  go_wp2_with (at_builtin; refine wpList_append_own _ rfl _ _ 26 rfl w.heap.size 68 i0 (.agg #[.string ⟨#[]⟩, .int .i64 0]) 2 24 Try.underlying26 hin hz0 hz1 hz2 rfl (by decide) _ als.length (als.flatMap aCells) rfl (HO5.out.alloc _) ⟨w5.heap.size, 0, none⟩ 1 1 [.string s, .int .i64 n] rfl rfl ?c4 ?c5 ?c6 ?c7 ?c8 ?_)
  case c4 =>
    intro j u hu
    have hj : j < 2 := by
      have := (List.getElem?_eq_some_iff.1 hu).1
      simpa using this
    rcases (by omega : j = 0 ∨ j = 1) with rfl | rfl
    · simp at hu; subst hu; exact (Blk.new w5 68 #[.string s, .int .i64 n]).cell 0
    · simp at hu; subst hu; exact (Blk.new w5 68 #[.string s, .int .i64 n]).cell 1
  case c5 => intro u hu; simp at hu; rcases hu with rfl | rfl <;> rfl
  case c6 => unfold maxLen; omega
  case c7 => omega
  case c8 => simp; have := hb5.size; omega
  intro v6 w6 hown6 hg6 _
  obtain ⟨a6, cv6, rfl⟩ := isSl hown6
  have C9 : Blk w6 w3.heap.size 28 _ := (D9.out.alloc _).grown hg6 (blk_not_row D9.out HO5.out (by decide))
  have C1 : Blk w6 w.heap.size 28 _ := (D1.out.alloc _).grown hg6 (blk_not_row D1.out HO5.out (by decide))
  have C2 : Blk w6 (w.heap.size + 1) 28 _ := (D2.out.alloc _).grown hg6 (blk_not_row D2.out HO5.out (by decide))
  have hb6 : Below w.heap.size w w6 := (hb5.alloc hb5.size _).grown hg6 (by have := hb5.size; simp; omega) (fun k hk => (hgl5 k hk).1)
  have S9 : Blk (w6.setCell ⟨w3.heap.size, 2, none⟩ (.slice a6 (als.length + 1) cv6)) w3.heap.size 28 #[.int .i64 limit, .slice ao names.length cap, .slice a6 (als.length + 1) cv6] := by simpa using C9.set 2 (.slice a6 (als.length + 1) cv6)
  have S2 : Blk (w6.setCell ⟨w3.heap.size, 2, none⟩ (.slice a6 (als.length + 1) cv6)) (w.heap.size + 1) 28 #[.int .i64 0, .slice none 0 0, .slice none 0 0] := C2.far (p := ⟨w3.heap.size, 2, none⟩) (by simp; omega) _
  have S1 : Blk (w6.setCell ⟨w3.heap.size, 2, none⟩ (.slice a6 (als.length + 1) cv6)) w.heap.size 28 _ := C1.far (p := ⟨w3.heap.size, 2, none⟩) (by simp; omega) _
  have S6 := row_set hown6 (blk_not_row C9 hown6 (by decide)) 2 (.slice a6 (als.length + 1) cv6)
  have hb7 : Below w.heap.size w (w6.setCell ⟨w3.heap.size, 2, none⟩ (.slice a6 (als.length + 1) cv6)) := hb6.setCell (p := ⟨w3.heap.size, 2, none⟩) (by simp; omega) _
  have c9 := C9.cell 2
  have f9 := C9.frozen 2
  simp only [List.getElem?_toArray, List.getElem?_cons_succ, List.getElem?_cons_zero] at c9
  obtain ⟨s0, s1, s2, _⟩ := S9.cells3
  obtain ⟨t0, t1, t2, t3, t4, t5⟩ := S2.cells3
  obtain ⟨u0, u1, u2, _⟩ := S1.cells3
  have K2 := Lib.hid S2
  have K6 := Lib.hid S6
  clear S9 S2 S6 S1 hown6 hg6 C9 C2 C1 D9 D2 D1 HO5 hgl5
  go_wp2_with fail
  clear c9 f9
  generalize w6.setCell ⟨w3.heap.size, 2, none⟩ (.slice a6 (als.length + 1) cv6) = W7 at *
  have hne7 := blk_not_row K2.out K6.out (by decide)
  go_wp2_with fail
  have RB := K2.out.set3 (.int .i64 limit) (.slice ao names.length cap) (.slice a6 (als.length + 1) cv6)
  have R6 := row_set (row_set (row_set K6.out hne7 0 (.int .i64 limit)) hne7 1 (.slice ao names.length cap)) hne7 2 (.slice a6 (als.length + 1) cv6)
  have hK := below_set3 hb7 (g := w.heap.size + 1) (by omega) (.int .i64 limit) (.slice ao names.length cap) (.slice a6 (als.length + 1) cv6)
  obtain ⟨r0, r1, r2⟩ := RB.box3
  refine bodyPost_ret (v := .tuple #[.agg #[.int .i64 limit, .slice ao names.length cap, .slice a6 (als.length + 1) cv6], .int .i64 0]) (by simp [results, Try.results27, go_sem, r0, r1, r2]) rfl ⟨_, rfl, ⟨_, _, rfl, row_below R1.out hK, ?_, fun k hk => .inl (G1.out k hk), ?_⟩, hK⟩
  · rw [List.length_append, List.flatMap_append]
    have := row_more (B := w.heap.size) R6 (Nat.zero_le _)
    simpa [aCells] using this
  · intro k hk
    exact .inr (World.ownsRow.lt R6 k hk).1
end
end Go.Proofs.Ytffgjamnijhlpaa
