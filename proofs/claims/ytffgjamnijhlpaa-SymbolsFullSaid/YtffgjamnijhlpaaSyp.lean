/- The reference's Add where it adds. -/
import Derived.Test.YtffgjamnijhlpaaSyn
import Derived.Laws.AppendOwnNone
import Derived.StillTailTactics
namespace Go.Proofs.Ytffgjamnijhlpaa
open Go.RowKit Go.Maps Go.Sort
section
variable {w w' : World} {F G : Nat → Prop} {v : Value} {limit : Nat} {names : List ByteArray} {E als : List (ByteArray × Int)}
/-- append of what a row of one's own holds, nil or not -/
theorem wpList_append_rows {ops : Array Oper} {rest : List Oper} {o : Oper} {a : Act} {Q : Exit → Act → World → Prop} (hgd : o.guard = none) (s x : Operand) (t : TypeId)
    (ho : o.op = .call { callee := .builtin .append, args := #[s, x], argTypes := #[t, t] }) (base : Nat) (e : TypeId) (i : TypeInfo) (z : Value) (size bytes : Nat)
    (ht : Try.prog.underlying t = some (.slice e)) (hi : Try.prog.info? e = some i) (hz : i.zero = some z) (hsize : i.size = size) (hby : i.bytes = bytes) (hzs : z.cells.size = size) (hsz : 0 < size)
    (v : Value) (n : Nat) (xs : List Value) (hs : a.eval s = v) (hown : w.ownsRow base e size v n xs)
    (vx : Value) (m : Nat) (news : List Value) (base2 : Nat) (hx : a.eval x = vx) (hsrc : w.ownsRow base2 e size vx m news) (h1 : ∀ u ∈ news, u.oneCell' = true)
    (h63 : n + m ≤ maxLen) (hbytes : (n + m) * bytes ≤ 140737488355328) (hbase : base ≤ w.heap.size)
    (h : ∀ v' w', w'.ownsRow base e size v' (n + m) (xs ++ news) → w.grownBy w' v.ownBlock → wpList Try.prog ops Q rest (a.put o.dst v') w') : wpList Try.prog ops Q (o :: rest) a w := by
  have h0 := hsrc
  rcases hsrc.2 with ⟨rfl, rfl⟩ | ⟨g, cap, cur, rfl, _⟩
  · have hn : news = [] := List.eq_nil_of_length_eq_zero (by simpa using hsrc.1)
    subst hn
    refine wpList_append_own_none hgd s x t ho base e i size ht hi v n xs hs hown hx ?_
    exact h v w (by simpa using hown) (World.grownBy.refl w _)
  · exact wpList_append_own w hgd s x t ho base e i z size bytes ht hi hz hsize hby hzs hsz v n xs hs hown ⟨g, 0, none⟩ m cap news hx h0.1 (World.ownsRow.cells h0 rfl) h1 h63 hbytes hbase (fun v' w' h2 h3 _ => h v' w' h2 h3)
theorem one_string (l : List ByteArray) : ∀ u ∈ l.map Value.string, u.oneCell' = true := by
  intro u hu
  obtain ⟨s, _, rfl⟩ := List.mem_map.1 hu
  rfl
set_option maxRecDepth 100000 in
set_option maxHeartbeats 4000000 in
theorem radd_ok (s : ByteArray) (h : RS w G v limit names als) (hi : identB s = true) (hn : (Keys (Fe names als)).Nodup) (hh : hasE (Fe names als) s = false) (hl : names.length ≤ 4096) (ha : als.length ≤ 4096) (hf : names.length < limit) (hs : s.size ≤ 9223372036854775807) :
    Calls Try.prog 26 #[v, .string s] w fun e w' => ∃ v', e = .returned (.tuple #[v', .int .i64 names.length, .int .i64 0]) ∧ RS w' (fun k => G k ∨ w.heap.size ≤ k) v' limit (names ++ [s]) als ∧ Below w.heap.size w w' := by
  obtain ⟨i0, hin, hz0, hz1, hz2⟩ := info_parts infoS
  have h00 := h
  obtain ⟨vn, va, hv, r1, r2, g1, g2⟩ := h00
  obtain ⟨vn', va', hv', hS, hA⟩ := h.strs
  rw [hv] at hv'
  obtain ⟨rfl, rfl⟩ : vn = vn' ∧ va = va' := by simpa using hv'
  clear hv' h
  subst hv
  obtain ⟨ao, cap, rfl, hN⟩ := id hS
  obtain ⟨ao2, cap2, rfl, hM⟩ := id hA
  obtain ⟨B1, B2, hW, hz⟩ := two_states w (.int .i64 limit) (.slice ao names.length cap) (.slice ao2 als.length cap2) (.int .i64 0) (.slice none 0 0) (.slice none 0 0)
  have HI := Lib.hid (fun w => rIdent_c s w hs)
  rw [hi] at HI
  have HF := Lib.hid (fun (W : World) (hb : Below w.heap.size w W) => rfind_c (w := W) (limit := limit) s (hS.keep hb) (hA.keep hb) hn (by omega) (by omega))
  have HH := Lib.hid hh
  have hf2 : ¬ ((limit : Int) ≤ (names.length : Int)) := by omega
  have R1 := Lib.hid r1
  have R2 := Lib.hid r2
  have G1 := Lib.hid g1
  have G2 := Lib.hid g2
  clear hS hA hN hM hi hn hh r1 r2 g1 g2
  go_enter Try.func26, Try.ntmps26
  go_wp2_with fail
  generalize (w.alloc (.cells #[.int .i64 limit, .slice ao names.length cap, .slice ao2 als.length cap2] 28)).alloc (.cells #[.int .i64 0, .slice none 0 0, .slice none 0 0] 28) = W at *
  obtain ⟨p0, p1, p2, _⟩ := B1.cells3
  have HW := Lib.hid hW
  have HB1 := Lib.hid B1
  have HB2 := Lib.hid B2
  have HZ := Lib.hid hz
  clear hW B1 B2 hz
  go_wp2_with (first
    | (go_at_call 36; refine (HI.out _).mono ?_; rintro e w1 ⟨rfl, rfl⟩)
    | (go_at_call 15; refine (HF.out _ HW.out).mono ?_; rintro e w3 ⟨rfl, hb3⟩
       rw [HH.out]
       obtain ⟨p0', p1', p2', _⟩ := (HB1.out.keep hb3).cells3
       have hsz3 : w.heap.size + 1 < w3.heap.size := by have := hb3.size; have := HZ.out; omega
       have qN : ∀ o1 o2, ((w3.alloc o1).alloc o2).cell? ⟨w.heap.size, 1, none⟩ = some (.slice ao names.length cap) := fun o1 o2 => (((HB1.out.keep hb3).alloc o1).alloc o2).cell 1)
    | (at_builtin
       have hb4 : Below w.heap.size w ((w3.alloc (.cells #[.int .i64 limit, .slice ao names.length cap, .slice ao2 als.length cap2] 28)).alloc (.cells #[] 9)) := ((HW.out.trans (hb3.mono HW.out.size)).alloc (by omega) _).alloc (by simp; omega) _
       have hE : ((w3.alloc (.cells #[.int .i64 limit, .slice ao names.length cap, .slice ao2 als.length cap2] 28)).alloc (.cells #[] 9)).ownsRow w.heap.size 9 1 (.slice (some ⟨w3.heap.size + 1, 0, none⟩) 0 0) 0 [] := by
         have := row_empty (w3.alloc (.cells #[.int .i64 limit, .slice ao names.length cap, .slice ao2 als.length cap2] 28)) 9 1 w.heap.size (by simp; omega)
         simpa using this
       refine wpList_append_rows rfl _ _ 25 rfl w.heap.size 9 i0 (.string ⟨#[]⟩) 1 16 Try.underlying25 hin hz0 hz1 hz2 rfl (by decide) _ 0 [] rfl hE _ names.length (names.map Value.string) 0 rfl (row_below R1.out hb4) (one_string _) ?c1 ?c2 ?c3 ?_))
  case c1 => unfold maxLen; omega
  case c2 => omega
  case c3 => exact hb4.size
  intro v5 w5 hown5 hg5
  have B9 : Blk ((w3.alloc (.cells #[.int .i64 limit, .slice ao names.length cap, .slice ao2 als.length cap2] 28)).alloc (.cells #[] 9)) w3.heap.size 28 _ := (Blk.new w3 28 #[.int .i64 limit, .slice ao names.length cap, .slice ao2 als.length cap2]).alloc _
  have B1 := (((HB1.out.keep hb3).alloc (.cells #[.int .i64 limit, .slice ao names.length cap, .slice ao2 als.length cap2] 28)).alloc (.cells #[] 9))
  have B2 := (((HB2.out.keep hb3).alloc (.cells #[.int .i64 limit, .slice ao names.length cap, .slice ao2 als.length cap2] 28)).alloc (.cells #[] 9))
  have HZ4 : ((w3.alloc (.cells #[.int .i64 limit, .slice ao names.length cap, .slice ao2 als.length cap2] 28)).alloc (.cells #[] 9)).heap.size = w3.heap.size + 2 := by simp
  have hgl5 := World.ownsRow.lt hown5
  have C9 : Blk w5 w3.heap.size 28 _ := B9.grown hg5 (by simp [Value.ownBlock])
  have C1 : Blk w5 w.heap.size 28 _ := B1.grown hg5 (by simp [Value.ownBlock]; omega)
  have C2 : Blk w5 (w.heap.size + 1) 28 _ := B2.grown hg5 (by simp [Value.ownBlock]; omega)
  have hb5 : Below w.heap.size w w5 := hb4.grown hg5 hb4.size (fun k hk => by simp [Value.ownBlock] at hk; omega)
  have HO5 := Lib.hid hown5
  have D9 := Lib.hid C9
  have D2 := Lib.hid C2
  have D1 := Lib.hid C1
  have hz5 : w3.heap.size + 2 ≤ w5.heap.size := by have := hg5.size; omega
  clear hown5 hg5 C9 C2 C1 B9 B2 B1 hE hb4 p0' p1' p2' HZ4 qN
  go_wp2_with (at_builtin; refine wpList_append_own _ rfl _ _ 25 rfl w.heap.size 9 i0 (.string ⟨#[]⟩) 1 16 Try.underlying25 hin hz0 hz1 hz2 rfl (by decide) _ names.length (names.map Value.string) rfl (HO5.out.alloc _) ⟨w5.heap.size, 0, none⟩ 1 1 [.string s] rfl rfl ?c4 ?c5 ?c6 ?c7 ?c8 ?_)
  case c4 =>
    intro j u hu
    have hj : j = 0 := by
      have := (List.getElem?_eq_some_iff.1 hu).1
      simpa using this
    subst hj
    simp at hu
    subst hu
    exact (Blk.new w5 9 #[.string s]).cell 0
  case c5 => intro u hu; simp at hu; subst hu; rfl
  case c6 => unfold maxLen; omega
  case c7 => omega
  case c8 => simp; have := hb5.size; omega
  intro v6 w6 hown6 hg6 _
  obtain ⟨a6, cv6, rfl⟩ := isSl hown6
  have C9 : Blk w6 w3.heap.size 28 _ := (D9.out.alloc _).grown hg6 (blk_not_row D9.out HO5.out (by decide))
  have C1 : Blk w6 w.heap.size 28 _ := (D1.out.alloc _).grown hg6 (blk_not_row D1.out HO5.out (by decide))
  have C2 : Blk w6 (w.heap.size + 1) 28 _ := (D2.out.alloc _).grown hg6 (blk_not_row D2.out HO5.out (by decide))
  have hb6 : Below w.heap.size w w6 := (hb5.alloc hb5.size _).grown hg6 (by have := hb5.size; simp; omega) (fun k hk => (hgl5 k hk).1)
  have S9 : Blk (w6.setCell ⟨w3.heap.size, 1, none⟩ (.slice a6 (names.length + 1) cv6)) w3.heap.size 28 #[.int .i64 limit, .slice a6 (names.length + 1) cv6, .slice ao2 als.length cap2] := by simpa using C9.set 1 (.slice a6 (names.length + 1) cv6)
  have S2 : Blk (w6.setCell ⟨w3.heap.size, 1, none⟩ (.slice a6 (names.length + 1) cv6)) (w.heap.size + 1) 28 #[.int .i64 0, .slice none 0 0, .slice none 0 0] := C2.far (p := ⟨w3.heap.size, 1, none⟩) (by simp; omega) _
  have S1 : Blk (w6.setCell ⟨w3.heap.size, 1, none⟩ (.slice a6 (names.length + 1) cv6)) w.heap.size 28 _ := C1.far (p := ⟨w3.heap.size, 1, none⟩) (by simp; omega) _
  have S6 := row_set hown6 (blk_not_row C9 hown6 (by decide)) 1 (.slice a6 (names.length + 1) cv6)
  have hb7 : Below w.heap.size w (w6.setCell ⟨w3.heap.size, 1, none⟩ (.slice a6 (names.length + 1) cv6)) := hb6.setCell (p := ⟨w3.heap.size, 1, none⟩) (by simp; omega) _
  have c9 := C9.cell 1
  have f9 := C9.frozen 1
  simp only [List.getElem?_toArray, List.getElem?_cons_succ, List.getElem?_cons_zero] at c9
  obtain ⟨s0, s1, s2, _⟩ := S9.cells3
  obtain ⟨t0, t1, t2, t3, t4, t5⟩ := S2.cells3
  obtain ⟨u0, u1, u2, _⟩ := S1.cells3
  have K2 := Lib.hid S2
  have K6 := Lib.hid S6
  clear S9 S2 S6 S1 hown6 hg6 C9 C2 C1 D9 D2 D1 HO5 hgl5
  go_wp2_with fail
  clear c9 f9
  generalize w6.setCell ⟨w3.heap.size, 1, none⟩ (.slice a6 (names.length + 1) cv6) = W7 at *
  have hne7 := blk_not_row K2.out K6.out (by decide)
  go_region
  go_wp2_with fail
  have RB := (K2.out.set3 (.int .i64 limit) (.slice a6 (names.length + 1) cv6) (.slice ao2 als.length cap2)).drew
  have R6 := row_set (row_set (row_set K6.out hne7 0 (.int .i64 limit)) hne7 1 (.slice a6 (names.length + 1) cv6)) hne7 2 (.slice ao2 als.length cap2)
  have hK := (below_set3 hb7 (g := w.heap.size + 1) (by omega) (.int .i64 limit) (.slice a6 (names.length + 1) cv6) (.slice ao2 als.length cap2)).drew
  obtain ⟨r0, r1, r2⟩ := RB.box3
  refine bodyPost_ret (v := .tuple #[.agg #[.int .i64 limit, .slice a6 (names.length + 1) cv6, .slice ao2 als.length cap2], .int .i64 names.length, .int .i64 0]) (by simp at r0 r1 r2; simp [results, Try.results26, go_sem, r0, r1, r2]) rfl ⟨_, rfl, ⟨_, _, rfl, ?_, row_below R2.out hK, ?_, fun k hk => .inl (G2.out k hk)⟩, hK⟩
  · rw [List.length_append, List.map_append]
    exact row_more (B := w.heap.size) R6 (Nat.zero_le _)
  · intro k hk
    exact .inr (World.ownsRow.lt R6 k hk).1
end
end Go.Proofs.Ytffgjamnijhlpaa
