/- Package octet: piece, encode, fold, unfold, elements. -/
import Derived.Test.YtohmlmbolilbbaaOpc
import Derived.Test.YtohmlmbolilbbaaOpd
import Derived.StillTailTactics
namespace Go.Proofs.Ytohmlmbolilbbaa
open Go.RowKit
theorem infoU8 : (Try.prog.info? 5).map (fun i => (i.zero, i.size, i.bytes)) = some (some (.int .u8 0), 1, 1) := by kernel_rfl
theorem piece_c (ao : Option Addr) (n cap a b : Nat) (w : World) (h1 : a ≤ b) (h2 : b ≤ cap) :
    Calls Try.prog 36 #[.slice ao n cap, .int .i64 a, .int .i64 b] w fun e w' => e = .returned (.slice (if b = a then ao else ao.map (·.add (a * 1))) (b - a) (b - a)) ∧ w' = w := by
  by_cases h : b = a
  · subst h
    go_enter Try.func36, Try.ntmps36
    go_wp2
    go_ret
    exact ⟨by simp, rfl⟩
  · go_enter Try.func36, Try.ntmps36
    go_wp2
    go_ret
    exact ⟨by simp, rfl⟩
theorem Byts.cut {w : World} {ao : Option Addr} {n cap : Nat} {l : List Int} (h : Byts w (.slice ao n cap) l) {a b : Nat} (m : Nat) (h1 : a ≤ b) (h2 : b ≤ n) (h3 : b ≤ m) (h4 : m ≤ cap) :
    Byts w (.slice (if m = a then ao else ao.map (·.add (a * 1))) (b - a) (m - a)) ((l.take b).drop a) := by
  obtain ⟨hl, hc, hn, hr⟩ := h.slice
  have hlen : ((l.take b).drop a).length = b - a := by rw [List.length_drop, List.length_take]; omega
  refine ⟨(h.all.take _).drop _, _, m - a, by rw [hlen], by omega, ?_, fun hne => ?_⟩
  · intro e
    by_cases hma : m = a
    · omega
    · rw [if_neg hma] at e
      have := hn (by cases ao <;> simp_all)
      omega
  · have hpos : 0 < ((l.take b).drop a).length := List.length_pos_iff.2 hne
    obtain ⟨g, o, rfl, _, hR⟩ := hr (by omega)
    refine ⟨g, o + a, ?_, (hR.take b).drop a⟩
    rw [if_neg (by omega)]
    simp [Addr.add]
theorem toNat_of64 (a : Int) : ((BitVec.ofInt 64 a).toNat : Int) = a % 18446744073709551616 := by
  rw [BitVec.toNat_ofInt]
  omega
theorem xor0 (a : Int) (h1 : -9223372036854775808 ≤ a) (h2 : a ≤ 9223372036854775807) : bits .xor .i64 a 0 = a := by
  show IntKind.i64.wrap ((BitVec.ofInt 64 a ^^^ BitVec.ofInt 64 0).toNat : Int) = a
  have e : BitVec.ofInt 64 0 = 0#64 := rfl
  rw [e, BitVec.xor_zero, toNat_of64, IntWalk.i64_left]
  unfold wrap64
  omega
theorem xorm1 (a : Int) (h1 : -9223372036854775808 ≤ a) (h2 : a ≤ 9223372036854775807) : bits .xor .i64 a (-1) = -1 - a := by
  show IntKind.i64.wrap ((BitVec.ofInt 64 a ^^^ BitVec.ofInt 64 (-1)).toNat : Int) = _
  have e : BitVec.ofInt 64 (-1) = BitVec.allOnes 64 := by decide
  rw [e, BitVec.xor_allOnes, BitVec.toNat_not, IntWalk.i64_left]
  have h := toNat_of64 a
  have hl := (BitVec.ofInt 64 a).isLt
  unfold wrap64
  omega
theorem and1 (n : Int) (h1 : 0 ≤ n) (h2 : n < 18446744073709551616) : bits .and .u64 n 1 = n % 2 := by
  rw [u64_and n 1 h1 (by omega) (by omega) (by omega), show (1 : Int).toNat = 1 from rfl, Nat.and_one_is_mod]
  omega
theorem u64w (n : Int) : IntKind.u64.wrap n = n % 18446744073709551616 := by simp [IntKind.wrap, IntKind.bits, IntKind.signed]
theorem fold_e (m : Int) (h1 : -9223372036854775808 ≤ m) (h2 : m ≤ 9223372036854775807) : IntKind.u64.wrap (bits .xor .i64 (wrap64 (m * 2)) (m / 9223372036854775808)) = foldN m := by
  have hw : -9223372036854775808 ≤ wrap64 (m * 2) ∧ wrap64 (m * 2) ≤ 9223372036854775807 := by unfold wrap64; omega
  unfold foldN
  by_cases h : 0 ≤ m
  · rw [show m / 9223372036854775808 = 0 by omega, xor0 _ hw.1 hw.2, if_pos h, u64w]
    unfold wrap64
    omega
  · rw [show m / 9223372036854775808 = -1 by omega, xorm1 _ hw.1 hw.2, if_neg h, u64w]
    unfold wrap64
    omega
theorem unfold_e (n : Int) (h1 : 0 ≤ n) (h2 : n < 18446744073709551616) : bits .xor .i64 (n / 2) (wrap64 (-wrap64 (bits .and .u64 n 1))) = unfoldI n := by
  rw [and1 n h1 h2]
  unfold unfoldI
  by_cases h : n % 2 = 0
  · rw [h, if_pos rfl, show wrap64 (-wrap64 0) = 0 by simp [wrap64], xor0 _ (by omega) (by omega)]
  · rw [show n % 2 = 1 by omega, if_neg (by omega), show wrap64 (-wrap64 1) = -1 by simp [wrap64], xorm1 _ (by omega) (by omega)]
    omega
theorem ret_u64 {a b : Int} (h : a = b) : Ending.returned (.int .u64 a) = .returned (.int .u64 b) := by rw [h]
theorem ret_i64 {a b : Int} (h : a = b) : Ending.returned (.int .i64 a) = .returned (.int .i64 b) := by rw [h]
theorem fold_c (m : Int) (w : World) (h1 : -9223372036854775808 ≤ m) (h2 : m ≤ 9223372036854775807) :
    Calls Try.prog 42 #[.int .i64 m] w fun e w' => e = .returned (.int .u64 (foldN m)) ∧ w' = w := by
  go_enter Try.func42, Try.ntmps42
  go_wp2
  go_ret
  exact ⟨ret_u64 (fold_e m h1 h2), rfl⟩
theorem unfold_c (n : Int) (w : World) (h1 : 0 ≤ n) (h2 : n < 18446744073709551616) :
    Calls Try.prog 37 #[.int .u64 n] w fun e w' => e = .returned (.int .i64 (unfoldI n)) ∧ w' = w := by
  go_enter Try.func37, Try.ntmps37
  go_wp2
  go_ret
  exact ⟨ret_i64 (unfold_e n h1 h2), rfl⟩
/-- a piece of bytes -/
theorem pieceB (v : Value) (l : List Int) (a b : Nat) (w : World) (hB : Byts w v l) (h1 : a ≤ b) (h2 : b ≤ l.length) :
    Calls Try.prog 36 #[v, .int .i64 a, .int .i64 b] w fun e w' => ∃ ao, e = .returned (.slice ao (b - a) (b - a)) ∧ Byts w (.slice ao (b - a) (b - a)) ((l.take b).drop a) ∧ w' = w := by
  have hB' := hB
  obtain ⟨_, ao, cap, rfl, hcap, _, _⟩ := hB'
  refine (piece_c ao l.length cap a b w h1 (by omega)).mono ?_
  rintro e w' ⟨rfl, rfl⟩
  exact ⟨_, rfl, hB.cut b h1 h2 (Nat.le_refl _) (by omega), rfl⟩
theorem elemN_step {l : List Int} {k : Nat} (h : elemN l ≤ k + 1) : (l.getD k 0 = 0 → elemN l ≤ k) ∧ (l.getD k 0 ≠ 0 → elemN l = k + 1) := by
  refine ⟨fun h0 => ?_, fun h0 => ?_⟩
  · rcases Nat.lt_or_ge k (elemN l) with h1 | h1
    · have e : elemN l = k + 1 := by omega
      have := elemN_last l (by omega)
      rw [e] at this
      exact absurd h0 this
    · exact h1
  · rcases Nat.lt_or_ge k (elemN l) with h1 | h1
    · omega
    · exact absurd (elemN_zero l k h1) h0
theorem mem4 {w : World} {g : Nat} {t : TypeId} {a b c d : Value} (h : Blk w g t #[a, b, c, d]) :
    w.cell? ⟨g, 0, none⟩ = some a ∧ w.cell? ⟨g, 1, none⟩ = some b ∧ w.cell? ⟨g, 2, none⟩ = some c ∧ w.cell? ⟨g, 3, none⟩ = some d :=
  ⟨h.cell 0, h.cell 1, h.cell 2, h.cell 3⟩
set_option maxRecDepth 100000 in
set_option maxHeartbeats 2000000 in
theorem elements_c (x0 x1 x2 x3 : Int) (w : World) :
    Calls Try.prog 43 #[.agg #[.int .u64 x0, .int .u64 x1, .int .u64 x2, .int .u64 x3]] w fun e w' => e = .returned (.int .i64 (elemN [x0, x1, x2, x3])) ∧ Below w.heap.size w w' := by
  have hE := elemN_le [x0, x1, x2, x3]
  have hS := fun k => @elemN_step [x0, x1, x2, x3] k
  obtain ⟨K, hK⟩ : ∃ K, elemN [x0, x1, x2, x3] = K := ⟨_, rfl⟩
  rw [hK] at hE hS
  rw [hK]
  have HS := Lib.hid hS
  clear hS hK
  simp only [List.length_cons, List.length_nil] at hE
  go_enter Try.func43, Try.ntmps43
  go_wp2_with fail
  have F : Blk (w.alloc (.cells #[.int .u64 x0, .int .u64 x1, .int .u64 x2, .int .u64 x3] 40)) w.heap.size _ _ := Blk.new w _ _
  have hb : Below w.heap.size w (w.alloc (.cells #[.int .u64 x0, .int .u64 x1, .int .u64 x2, .int .u64 x3] 40)) := (Below.refl _ _).alloc (Nat.le_refl _) _
  generalize (w.alloc (.cells #[.int .u64 x0, .int .u64 x1, .int .u64 x2, .int .u64 x3] 40)) = W at *
  obtain ⟨c0, c1, c2, c3⟩ := mem4 F
  clear F
  go_loop [3] (fun v => ∃ k : Nat, K ≤ k ∧ k ≤ 4 ∧ v = .int .i64 k) (fun v => (intOf v).toNat)
  case atStart => exact ⟨4, by omega, by omega, rfl⟩
  case round =>
    obtain ⟨k, hk1, hk2, rfl⟩ := hrel
    rcases (show k = 0 ∨ k = 1 ∨ k = 2 ∨ k = 3 ∨ k = 4 by omega) with rfl | rfl | rfl | rfl | rfl
    · obtain rfl : K = 0 := by omega
      go_wp2
      go_ret
      exact ⟨rfl, hb⟩
    · obtain ⟨s1, s2⟩ := HS.out _ hk1
      simp only [List.getD_cons_zero, List.getD_cons_succ] at s1 s2
      by_cases hx : x0 = 0
      · have s := s1 hx
        subst hx
        clear s1 s2
        go_wp2
        go_round
        case rel => exact ⟨0, s, by omega, rfl⟩
        case measure => simp [intOf]
      · obtain rfl := s2 hx
        have hx' : (x0 == 0) = false := by simpa using hx
        clear s1 s2 hx
        go_wp2
        go_ret
        exact ⟨rfl, hb⟩
    · obtain ⟨s1, s2⟩ := HS.out _ hk1
      simp only [List.getD_cons_zero, List.getD_cons_succ] at s1 s2
      by_cases hx : x1 = 0
      · have s := s1 hx
        subst hx
        clear s1 s2
        go_wp2
        go_round
        case rel => exact ⟨1, s, by omega, rfl⟩
        case measure => simp [intOf]
      · obtain rfl := s2 hx
        have hx' : (x1 == 0) = false := by simpa using hx
        clear s1 s2 hx
        go_wp2
        go_ret
        exact ⟨rfl, hb⟩
    · obtain ⟨s1, s2⟩ := HS.out _ hk1
      simp only [List.getD_cons_zero, List.getD_cons_succ] at s1 s2
      by_cases hx : x2 = 0
      · have s := s1 hx
        subst hx
        clear s1 s2
        go_wp2
        go_round
        case rel => exact ⟨2, s, by omega, rfl⟩
        case measure => simp [intOf]
      · obtain rfl := s2 hx
        have hx' : (x2 == 0) = false := by simpa using hx
        clear s1 s2 hx
        go_wp2
        go_ret
        exact ⟨rfl, hb⟩
    · obtain ⟨s1, s2⟩ := HS.out _ hk1
      simp only [List.getD_cons_zero, List.getD_cons_succ] at s1 s2
      by_cases hx : x3 = 0
      · have s := s1 hx
        subst hx
        clear s1 s2
        go_wp2
        go_round
        case rel => exact ⟨3, s, by omega, rfl⟩
        case measure => simp [intOf]
      · obtain rfl := s2 hx
        have hx' : (x3 == 0) = false := by simpa using hx
        clear s1 s2 hx
        go_wp2
        go_ret
        exact ⟨rfl, hb⟩
theorem code_len' : ∀ (k n : Nat), n < 128 ^ (k + 1) → (code n).length ≤ k + 1
  | 0, n, h => by rw [code_lt (by simpa using h)]; simp
  | k + 1, n, h => by
    by_cases h1 : n < 128
    · rw [code_lt h1]; simp
    · rw [code_ge h1, List.length_cons]
      have := code_len' k (n / 128) (by rw [Nat.pow_succ] at h; omega)
      omega
theorem code_len {n : Nat} (h : n < 18446744073709551616) : (code n).length ≤ 10 := code_len' 9 n (by
  have : (128 : Nat) ^ 10 = 1180591620717411303424 := by decide
  omega)
theorem OwnB.alloc {w : World} {base : Nat} {v : Value} {l : List Int} (h : OwnB w base v l) (o : Obj) : OwnB (w.alloc o) base v l := World.ownsRow.alloc h o
theorem OwnB.mono {w : World} {base b' : Nat} {v : Value} {l : List Int} (h : OwnB w base v l) (hb : b' ≤ base) : OwnB w b' v l := World.ownsRow.mono h hb
theorem byts1 {w : World} {g : Nat} {c : Int} (h : 0 ≤ c ∧ c ≤ 255) (hB : Blk w g 5 #[.int .u8 c]) : Byts w (.slice (some ⟨g, 0, none⟩) 1 1) [c] := by
  refine ⟨AllB.nil.cons h, _, 1, rfl, Nat.le_refl _, (fun h => by cases h), fun _ => ⟨g, 0, rfl, fun k hk => ?_⟩⟩
  have h0 : k = 0 := by simpa using hk
  subst h0
  exact hB.cell 0
set_option maxRecDepth 100000 in
set_option maxHeartbeats 2000000 in
/-- encode: the list of bytes, in a row of the call's own -/
theorem encode_c (n : Nat) (w : World) (hn : n < 18446744073709551616) :
    Calls Try.prog 39 #[.int .u64 n] w fun e w' => ∃ v, e = .returned v ∧ OwnB w' w.heap.size v (code n) ∧ Below w.heap.size w w' := by
  obtain ⟨i0, hi, hz0, hz1, hz2⟩ := info_parts infoU8
  have hlen := code_len hn
  go_enter Try.func39, Try.ntmps39
  go_wp2_with (at_make; refine wpList_make_own _ rfl _ _ 22 rfl w.heap.size 5 i0 (.int .u8 0) 1 Try.underlying22 hi hz0 hz1 .i64 .i64 10 10 rfl rfl rfl ?b1 ?b2 ?b3 ?_)
  case b1 => rw [hz2]; omega
  case b2 => unfold maxLen; omega
  case b3 => exact Nat.le_refl _
  intro w1 hown hg
  have hb1 : Below w.heap.size w w1 := (Below.refl _ _).grown hg (Nat.le_refl _) (by simp)
  obtain ⟨v1, hv1⟩ : ∃ v, v = Value.slice (some ⟨w.heap.size, 0, none⟩) 0 10 := ⟨_, rfl⟩
  rw [← hv1] at hown
  rw [← hv1]
  clear hg hv1
  go_wp2_with fail
  go_loopw [0, 3] (fun vn vb wr => ∃ (m : Nat) (p : List Int), vn = .int .u64 m ∧ p ++ code m = code n ∧ OwnB wr w.heap.size vb p ∧ Below w.heap.size w wr) (fun vn _ _ => (intOf vn).toNat)
  case atStart => exact ⟨n, [], rfl, rfl, hown, hb1⟩
  case round =>
    obtain ⟨m, p, rfl, hp, hown, hb⟩ := hrel
    have hpl : p.length + (code m).length ≤ 10 := by rw [← List.length_append, hp]; exact hlen
    have hpm := code_pos m
    by_cases hlt : m < 128
    · have hlt' : (m : Int) < 128 := by omega
      have hcode := code_lt hlt
      have HP := Lib.hid hp
      clear hp
      go_wp2_with (at_builtin; refine wpList_append_bytes _ rfl _ _ 22 rfl w.heap.size i0 Try.underlying22 hi hz0 hz1 hz2 _ _ p [_] rfl rfl (.inl (hown.alloc _)) (byts1 ?c1 (Blk.new _ _ _)) (by simp; omega) (by simp; have := hb.size; omega) ?_)
      case c1 => omega
      intro v2 w2 _ hb2 ho2
      go_wp2
      go_ret
      exact ⟨_, rfl, by rw [← HP.out, hcode]; exact ho2, hb.trans (((Below.refl _ _).alloc hb.size _).trans hb2)⟩
    · have hlt' : ¬ (m : Int) < 128 := by omega
      go_wp2_with (at_builtin; refine wpList_append_bytes _ rfl _ _ 22 rfl w.heap.size i0 Try.underlying22 hi hz0 hz1 hz2 _ _ p [_] rfl rfl (.inl (hown.alloc _)) (byts1 ?c2 (Blk.new _ _ _)) (by simp; omega) (by simp; have := hb.size; omega) ?_)
      case c2 => rw [or128 _ (by omega) (by omega)]; omega
      intro v2 w2 _ hb2 ho2
      have HO : Hid (OwnB w2 w.heap.size v2 (p ++ [((m % 128 + 128 : Nat) : Int)])) := by
        rw [or128 _ (by omega) (by omega), show (m : Int) % 256 % 128 + 128 = ((m % 128 + 128 : Nat) : Int) by omega] at ho2
        exact Lib.hid ho2
      clear ho2
      have HC := Lib.hid (code_ge hlt)
      have HP := Lib.hid hp
      clear hp
      go_wp2
      go_roundw
      case rel => exact ⟨m / 128, p ++ [((m % 128 + 128 : Nat) : Int)], by go_num, by rw [List.append_assoc, List.singleton_append, ← HC.out, HP.out], HO.out, hb.trans (((Below.refl _ _).alloc hb.size _).trans hb2)⟩
      case measure => simp [intOf]; omega
end Go.Proofs.Ytohmlmbolilbbaa
