/- same: a table and a state of the reference have the same answers. -/
import Derived.Test.YtffgjamnijhlpaaSys
import Derived.Test.YtffgjamnijhlpaaSyf
import Derived.Deep.RegionHeld3
namespace Go.Proofs.Ytffgjamnijhlpaa
open Go.RowKit Go.Maps Go.Sort
def srt (M : List ByteArray) : List ByteArray := ((M.map (fun s => s.data.toList)).mergeSort leB).map (fun s => ⟨s.toArray⟩)
theorem srt_is {L M : List ByteArray} (h : SortedOf L M) : L = srt M := (sorted_unique h (List.Perm.refl _)).symm
theorem srt_mem {M : List ByteArray} {x : ByteArray} (h : x ∈ srt M) : x ∈ M := by
  unfold srt at h
  obtain ⟨y, hy, rfl⟩ := List.mem_map.1 h
  rw [List.mem_mergeSort] at hy
  obtain ⟨z, hz, rfl⟩ := List.mem_map.1 hy
  have : (⟨z.data.toList.toArray⟩ : ByteArray) = z := by simp
  rw [this]
  exact hz
theorem srt_length (M : List ByteArray) : (srt M).length = M.length := by simp [srt, List.length_mergeSort]
/-- names are short -/
def Small (E : List (ByteArray × Int)) : Prop := ∀ s ∈ Keys E, s.size ≤ 9223372036854775807
section
variable {w w' W : World} {F G : Nat → Prop} {v : Value} {g limit : Nat} {names : List ByteArray} {E als : List (ByteArray × Int)}
theorem Small.add (h : Small E) {s : ByteArray} (hs : s.size ≤ 9223372036854775807) : Small (addE limit names E s) := by
  unfold addE
  split
  · intro x hx
    unfold Keys at hx
    rw [List.map_append] at hx
    rcases List.mem_append.1 hx with hx | hx
    · exact h x hx
    · simp at hx
      subst hx
      exact hs
  · exact h
theorem Small.ali (h : Small E) {s : ByteArray} {n : Int} (hs : s.size ≤ 9223372036854775807) : Small (aliE names E E s n) := by
  unfold aliE
  split
  · intro x hx
    unfold Keys at hx
    rw [List.map_append] at hx
    rcases List.mem_append.1 hx with hx | hx
    · exact h x hx
    · simp at hx
      subst hx
      exact hs
  · exact h
theorem mate_keys (hM : Mate names als E) : (Keys E).Perm (names ++ Keys als) := by
  have := hM.1.map (fun p : ByteArray × Int => p.1)
  rw [← Fe_keys]
  exact this
theorem sortedP_c (h : TabF w F g limit names E) (hM : Mate names als E) (hE : E.length ≤ 1000000) :
    Calls Try.prog 22 #[.pointer (some ⟨g, 0, none⟩)] w fun e w' => (∃ v, e = .returned v ∧ Strs w' v (srt (names ++ Keys als))) ∧ Below w.heap.size w w' := by
  refine (sorted_c h.tab hE).mono ?_
  rintro e w' ⟨v, ss, rfl, hp, hs, hb⟩
  have := mergeSort_of_perm (hp.trans ((mate_keys hM).map _))
  have h2 : ss.mergeSort (fun x y => decide (x ≤ y)) = ((names ++ Keys als).map (fun s => s.data.toList)).mergeSort leB := this
  rw [h2] at hs
  exact ⟨⟨v, rfl, hs⟩, hb⟩
theorem sortedR_c (h : RS w G v limit names als) (hl : names.length ≤ 4096) (ha : als.length ≤ 4096) :
    Calls Try.prog 28 #[v] w fun e w' => (∃ v', e = .returned v' ∧ Strs w' v' (srt (names ++ Keys als))) ∧ Below w.heap.size w w' := by
  refine (rsorted_c h hl ha).mono ?_
  rintro e w' ⟨⟨v', L, rfl, hs, hL⟩, hb⟩
  rw [srt_is hL] at hs
  exact ⟨⟨v', rfl, hs⟩, hb⟩
theorem namesE_c (h : TabF w F g limit names E) (hl : names.length ≤ 1000000) :
    Calls Try.prog 23 #[.pointer (some ⟨g, 0, none⟩)] w fun e w' => (∃ v', e = .returned v' ∧ Strs w' v' names) ∧ Below w.heap.size w w' := (names_c h hl).mono fun _ _ ⟨v', a, b, c⟩ => ⟨⟨v', a, b⟩, c⟩
theorem texts_same (v u : Value) (l : List ByteArray) (w : World) (hV : Strs w v l) (hU : Strs w u l) (hn : l.length ≤ 1000000000000) :
    Calls Try.prog 25 #[v, u] w fun e w' => e = .returned (.bool true) ∧ Below w.heap.size w w' := by
  have := texts_c v u l l w hV hU hn hn
  rwa [sameS_self] at this
theorem Kp.tab (hC : Kp W w) (h : TabF W F g limit names E) : TabF w F g limit names E := h.below hC
theorem Kp.rs (hC : Kp W w) (h : RS W G v limit names als) : RS w G v limit names als := h.below hC
theorem Kp.strs (hC : Kp W w) {l : List ByteArray} (h : Strs W v l) : Strs w v l := h.keep hC
set_option maxRecDepth 100000 in
set_option maxHeartbeats 8000000 in
theorem same_c (hT : TabF w F g limit names E) (hR : RS w G v limit names als) (hM : Mate names als E) (hS : Small E) (hl : names.length ≤ 4096) (ha : als.length ≤ 4096) :
    Calls Try.prog 13 #[.pointer (some ⟨g, 0, none⟩), v] w fun e w' => e = .returned (.bool true) ∧ Below w.heap.size w w' := by
  have hR0 := hR
  obtain ⟨vn, va, rfl, hN, hA⟩ := hR0.strs
  obtain ⟨ao, cap, rfl, _⟩ := id hN
  obtain ⟨ao2, cap2, rfl, _⟩ := id hA
  have hE : E.length ≤ 1000000 := by have := hM.len; omega
  have hB : Blk (w.alloc (.cells #[.int .i64 limit, .slice ao names.length cap, .slice ao2 als.length cap2] 28)) w.heap.size 28 _ := Blk.new w 28 #[.int .i64 limit, .slice ao names.length cap, .slice ao2 als.length cap2]
  have hW : Below w.heap.size w (w.alloc (.cells #[.int .i64 limit, .slice ao names.length cap, .slice ao2 als.length cap2] 28)) := (Below.refl _ _).alloc (Nat.le_refl _) _
  have HT := Lib.hid (hT.below hW)
  have HR := Lib.hid (hR.below hW)
  have HN := Lib.hid (hN.keep hW)
  have HA := Lib.hid (hA.keep hW)
  have HM := Lib.hid hM
  have HS := Lib.hid hS
  clear hT hR hR0 hN hA hM hS
  go_enter Try.func13, Try.ntmps13
  go_wp2_with fail
  generalize w.alloc (.cells #[.int .i64 limit, .slice ao names.length cap, .slice ao2 als.length cap2] 28) = W at *
  have HB := Lib.hid hB
  have HW := Lib.hid hW
  obtain ⟨c0, c1, c2⟩ := hB.box3
  clear hB hW
  have hC0 : Kp W W.drew := (Below.refl _ _).drew
  go_region_held3 (fun w' => w'.cell? ⟨w.heap.size, 0, none⟩ = some (.int .i64 limit) ∧ w'.cell? ⟨w.heap.size, 1, none⟩ = some (.slice ao names.length cap) ∧ w'.cell? ⟨w.heap.size, 2, none⟩ = some (.slice ao2 als.length cap2)) (exact (Kp.blk (by assumption) HB.out).box3)
    (first
      | (go_at_call 21; refine (len_c (Kp.tab (by assumption) HT.out).tab).mono ?_; rintro e w2 ⟨rfl, rfl⟩)
      | (go_at_call 23; refine (namesE_c (Kp.tab (by assumption) HT.out) (by omega)).mono ?_; rintro e w2 ⟨⟨v2, rfl, hs2⟩, hb2⟩; have HS2 := Lib.hid hs2; have hC2 := Kp.step (by assumption) hb2; clear hb2 hs2)
      | (go_at_call 22; refine (sortedP_c (Kp.tab (by assumption) HT.out) HM.out hE).mono ?_; rintro e w4 ⟨⟨v4, rfl, hs4⟩, hb4⟩; have HS4 := Lib.hid hs4; have hC4 := Kp.step (by assumption) hb4; clear hb4 hs4)
      | (go_at_call 28; refine (sortedR_c (Kp.rs (by assumption) HR.out) hl ha).mono ?_; rintro e w5 ⟨⟨v5, rfl, hs5⟩, hb5⟩; have HS5 := Lib.hid hs5; have HS6 := Lib.hid (HS4.out.keep hb5); have hC5 := Kp.step (by assumption) hb5; clear hb5 hs5)
      | (go_at_call 25; refine (texts_same _ _ _ _ HS6.out HS5.out (by rw [srt_length]; simp [Keys]; omega)).mono ?_; rintro e w6 ⟨rfl, hb6⟩; have hC6 := Kp.step (by assumption) hb6; clear hb6)
      | (go_at_call 25; refine (texts_same _ _ _ _ HS2.out (Kp.strs (by assumption) HN.out) (by omega)).mono ?_; rintro e w3 ⟨rfl, hb3⟩; have hC3 := Kp.step (by assumption) hb3; clear hb3))
  go_wp2_with fail
  go_loopw [5] (fun vi wr => ∃ n : Int, -1 ≤ n ∧ n ≤ names.length + 1 ∧ vi = .int .i64 n ∧ Kp W wr) (fun vi _ => ((names.length : Int) + 1 - intOf vi).toNat)
  case atStart => exact ⟨-1, by omega, by omega, rfl, hC6⟩
  case round =>
    obtain ⟨n, hn0, hn1, rfl, hC⟩ := hrel
    obtain ⟨d0, d1, d2⟩ := (hC.blk HB.out).box3
    by_cases hlt : n ≤ names.length
    · obtain ⟨R, hR⟩ : ∃ R, symNR names n = R := ⟨_, rfl⟩
      obtain ⟨H, hH⟩ : ∃ H, symNB names n = H := ⟨_, rfl⟩
      have HX := Lib.hid (name_c n (hC.tab HT.out) (by omega))
      have HY := Lib.hid (fun (w1 : World) (h1 : Kp W w1) => rname_c (w := w1) (limit := limit) (va := .slice ao2 als.length cap2) n (h1.strs HN.out) (by omega))
      rw [hR, hH] at HX HY
      clear hR hH
      go_wp2_with (first
        | (go_at_call 16; refine HX.out.mono ?_; rintro e w7 ⟨rfl, hb7⟩; have hC7 := hC.step hb7; obtain ⟨u0, u1, u2⟩ := (hC7.blk HB.out).box3)
        | (go_at_call 17; refine (HY.out _ hC7).mono ?_; rintro e w8 ⟨rfl, hb8⟩; have hC8 := hC7.step hb8))
      go_roundw
      case rel => exact ⟨n + 1, by omega, by omega, by go_num, hC8⟩
      case measure => simp [intOf]; omega
    · clear hC6
      go_wp2_with (go_at_call 28; refine (sortedR_c (hC.rs HR.out) hl ha).mono ?_; rintro e w7 ⟨⟨v7, rfl, hs7⟩, hb7⟩; have hC7 := hC.step hb7)
      obtain ⟨M, hM⟩ : ∃ M, srt (names ++ Keys als) = M := ⟨_, rfl⟩
      rw [hM] at hs7
      obtain ⟨a7, cap7, rfl, hs8⟩ := hs7
      have HM7 := Lib.hid hM
      have HS8 := Lib.hid hs8
      have HLM : M.length ≤ 8192 := by rw [← hM, srt_length]; simp [Keys]; omega
      clear hM hs8
      go_wp2_with fail
      go_loopw [11] (fun vi wr => ∃ i : Nat, i ≤ M.length ∧ vi = .int .i64 i ∧ Kp w7 wr) (fun vi _ => M.length - (intOf vi).toNat)
      case atStart => exact ⟨0, Nat.zero_le _, rfl, Kp.rfl'⟩
      case round =>
        obtain ⟨i, hi, rfl, hD⟩ := hrel
        have hC := hC7.step hD
        by_cases hlt : i < M.length
        · have hlt' : (i : Int) < (M.length : Int) := by omega
          obtain ⟨g7, o7, rfl, hRow⟩ := HS8.out (by rintro rfl; simp at hlt)
          have hgl := hRow.lt (by omega)
          have hq := hRow i hlt
          obtain ⟨x, hx⟩ : ∃ x, M[i] = x := ⟨_, rfl⟩
          rw [hx] at hq
          have hxm : x ∈ names ++ Keys als := srt_mem (by rw [HM7.out, ← hx]; exact List.getElem_mem hlt)
          have hxk : x ∈ Keys E := (mate_keys HM.out).mem_iff.2 hxm
          have hxh := (hasE_keys E x).2 hxk
          have hxs := HS.out x hxk
          have HF1 := Lib.hid (find_c x (hC.tab HT.out).tab hxs)
          rw [hxh] at HF1
          have HF2 : Hid (∀ w1, Kp wr w1 → Calls Try.prog 15 #[.agg #[.int .i64 limit, .slice ao names.length cap, .slice ao2 als.length cap2], .string x] w1 fun e w' => e = .returned (.tuple #[.int .i64 (lookE E x), .bool true]) ∧ Below w1.heap.size w1 w') := Lib.hid fun w1 h1 => by
            have := rfind_c (w := w1) (limit := limit) x ((hC.step h1).strs HN.out) (HA.out.keep (hC.step h1)) HM.out.nodup (by omega) (by omega)
            rwa [HM.out.look, HM.out.has, hxh] at this
          have hqw : ∀ w1, Kp wr w1 → w1.cell? ⟨g7, o7 + i, none⟩ = some (.string x) := fun w1 h1 => (hRow.keep ((hD.step h1).block g7 hgl)) i hlt |>.trans (by rw [hx])
          have hq1 := hqw wr Kp.rfl'
          have HQ := Lib.hid hqw
          have HB2 : Hid (∀ w1, Kp wr w1 → w1.cell? ⟨w.heap.size, 0, none⟩ = some (.int .i64 limit) ∧ w1.cell? ⟨w.heap.size, 1, none⟩ = some (.slice ao names.length cap) ∧ w1.cell? ⟨w.heap.size, 2, none⟩ = some (.slice ao2 als.length cap2)) := Lib.hid fun w1 h1 => ((hC.step h1).blk HB.out).box3
          clear hq hqw hRow hgl hx hxm hxk hxh hxs
          go_wp2_with (go_at_call 14; refine HF1.out.mono ?_; rintro e w9 ⟨rfl, rfl⟩)
          refine wp_region_kp (by kernel_rfl) (by kernel_rfl) ?_
          repeat (first
            | go_big_quiet_skip
            | (go_big_quiet_want
               go_big_quiet_op
               first
                 | go_big_quiet_on
                 | (apply Exists.intro
                    refine ⟨fun w1 hC => ?_, ?_⟩
                    · first
                        | (go_at_call 15; with_reducible exact hC.call (HF2.out _ hC))
                        | (obtain ⟨p0, p1, p2⟩ := HB2.out _ hC; have p4 := HQ.out _ hC; go_simp; exact rfl)
                    go_big_quiet_on)))
          refine wpQuiet_nil ?_
          intro W' hC9
          go_wp2_with fail
          go_roundw
          case rel => exact ⟨i + 1, hlt, by go_num, hD.step hC9⟩
          case measure => simp [intOf]; omega
        · obtain rfl : i = M.length := by omega
          go_wp2_with fail
          go_ret
          exact ⟨rfl, HW.out.trans (Below.mono hC HW.out.size)⟩
end
end Go.Proofs.Ytffgjamnijhlpaa
