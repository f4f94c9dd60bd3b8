/- The statements' own check of examples (awake), short and front. -/
import Derived.Test.YtohmlmbolilbbaaOpr
namespace Go.Proofs.Ytohmlmbolilbbaa
open Go.RowKit
def same4 (a b c d a' b' c' d' : Int) : Bool := decide (a = a' ∧ b = b' ∧ c = c' ∧ d = d')
@[go_sem] theorem same4_self (a b c d : Int) : same4 a b c d a b c d = true := by simp [same4]
@[go_sem] theorem eqSet (a b c d a' b' c' d' : Int) (w : World) :
    (Op.equalIn 10000 40 (.agg #[.int .u64 a, .int .u64 b, .int .u64 c, .int .u64 d]) (.agg #[.int .u64 a', .int .u64 b', .int .u64 c', .int .u64 d'])).run Try.prog w = .ok (same4 a b c d a' b' c' d') w := by
  have u3 := Try.underlying23
  have a3 := Try.isAgg23
  have z3 := Try.sizeOf23
  rw [show (10000 : Nat) = 9999 + 1 from rfl, Op.equalIn]
  simp only [Sem.run_bind, run_underlying Try.underlying40, Result.andThen_ok]
  simp only [Std.Legacy.Range.forIn_eq_forIn_range', Std.Legacy.Range.size, Nat.sub_zero, Nat.add_sub_cancel, Nat.div_one, List.range'_succ, List.range'_zero, List.forIn_cons, List.forIn_nil]
  go_simp
  by_cases h1 : a = a' <;> by_cases h2 : b = b' <;> by_cases h3 : c = c' <;> by_cases h4 : d = d' <;> simp [h1, h2, h3, h4, same4]
theorem lit_all {q : List Int} (h : q.all (fun x => decide (0 ≤ x ∧ x ≤ 255)) = true) : AllB q := by
  intro x hx
  have := List.all_eq_true.1 h x hx
  simpa using this
theorem code300 : code 300 = [172, 2] := by rw [code_ge (by decide), code_lt (by decide)]; rfl
theorem code2 : code 2 = [2] := code_lt (by decide)
theorem code1 : code 1 = [1] := code_lt (by decide)
theorem below_lit {W w' : World} {o : Obj} (h : Below (W.alloc o).heap.size (W.alloc o) w') : Below W.heap.size W w' := ((Below.refl _ _).alloc (Nat.le_refl _) _).trans (h.mono (by simp))
theorem aw_n1 (W : World) (g : Nat) (hg : g = W.heap.size) : Calls Try.prog 12 #[(.slice (some ⟨g, 0, none⟩) 3 3)] (W.alloc (.cells #[.int .u8 172, .int .u8 2, .int .u8 9] 5)) fun e w' => ∃ vr, e = .returned (.tuple #[.int .u64 300, vr, .int .i64 0]) ∧ Byts w' vr [9] ∧ Below W.heap.size W w' := by
  refine (number_c _ [172, 2, 9] _ (byts_of (q := [172, 2, 9]) (lit_all (by decide)) (Blk.here hg)) (by decide)).mono ?_
  rintro e w' ⟨vr, rfl, hB, hb⟩
  have hd : dec [172, 2, 9] = (0, 300, 2) := by decide
  have hr : decR [172, 2, 9] = [9] := by decide
  rw [hr] at hB
  rw [hd]
  exact ⟨vr, rfl, hB, below_lit hb⟩
theorem aw_n2 (W : World) (g : Nat) (hg : g = W.heap.size) : Calls Try.prog 12 #[(.slice (some ⟨g, 0, none⟩) 2 2)] (W.alloc (.cells #[.int .u8 128, .int .u8 0] 5)) fun e w' => ∃ vr, e = .returned (.tuple #[.int .u64 0, vr, .int .i64 6]) ∧ Byts w' vr [] ∧ Below W.heap.size W w' := by
  refine (number_c _ [128, 0] _ (byts_of (q := [128, 0]) (lit_all (by decide)) (Blk.here hg)) (by decide)).mono ?_
  rintro e w' ⟨vr, rfl, hB, hb⟩
  have hd : dec [128, 0] = (6, 0, 0) := by decide
  have hr : decR [128, 0] = [] := by decide
  rw [hr] at hB
  rw [hd]
  exact ⟨vr, rfl, hB, below_lit hb⟩
theorem aw_n3 (W : World) (g : Nat) (hg : g = W.heap.size) : Calls Try.prog 12 #[(.slice (some ⟨g, 0, none⟩) 1 1)] (W.alloc (.cells #[.int .u8 128] 5)) fun e w' => ∃ vr, e = .returned (.tuple #[.int .u64 0, vr, .int .i64 5]) ∧ Byts w' vr [] ∧ Below W.heap.size W w' := by
  refine (number_c _ [128] _ (byts_of (q := [128]) (lit_all (by decide)) (Blk.here hg)) (by decide)).mono ?_
  rintro e w' ⟨vr, rfl, hB, hb⟩
  have hd : dec [128] = (5, 0, 0) := by decide
  have hr : decR [128] = [] := by decide
  rw [hr] at hB
  rw [hd]
  exact ⟨vr, rfl, hB, below_lit hb⟩
theorem aw_t1 (W : World) (g : Nat) (hg : g = W.heap.size) : Calls Try.prog 21 #[(.slice (some ⟨g, 0, none⟩) 3 3), .int .i64 1] (W.alloc (.cells #[.int .u8 2, .int .u8 97, .int .u8 98] 5)) fun e w' => ∃ vr, e = .returned (.tuple #[.string ⟨#[]⟩, vr, .int .i64 4]) ∧ Below W.heap.size W w' := by
  refine (text_c _ [2, 97, 98] 1 _ (byts_of (q := [2, 97, 98]) (lit_all (by decide)) (Blk.here hg)) (by decide) (by omega) (by omega)).mono ?_
  rintro e w' ⟨vr, rfl, hB, hb⟩
  have hd : decT [2, 97, 98] 1 = (4, ByteArray.empty, []) := by decide +kernel
  rw [hd]
  exact ⟨vr, rfl, below_lit hb⟩
theorem aw_pn (W : World) : Calls Try.prog 17 #[.slice none 0 0, .int .u64 300] W fun e w' => ∃ a n c, e = .returned (.slice a n c) ∧ Byts w' (.slice a n c) [172, 2] ∧ Below W.heap.size W w' := by
  refine (putNumber_c _ [] 300 W Byts.nil (by decide) (by decide)).mono ?_
  rintro e w' ⟨v, rfl, ho, hb⟩
  rw [List.nil_append, code300] at ho
  obtain ⟨a, n, c, rfl⟩ := ho.isSliceN
  exact ⟨a, n, c, rfl, ho.byts (lit_all (by decide)), hb⟩
theorem aw_ps (W : World) : Calls Try.prog 27 #[.slice none 0 0, .agg #[.int .u64 1, .int .u64 1, .int .u64 0, .int .u64 0]] W fun e w' => ∃ a n c, e = .returned (.slice a n c) ∧ Byts w' (.slice a n c) [2, 1, 1] ∧ Below W.heap.size W w' := by
  refine (putSet_c _ [] 1 1 0 0 W Byts.nil (by decide) (by decide)).mono ?_
  rintro e w' ⟨v, rfl, ho, hb⟩
  have he : encS [1, 1, 0, 0] = [2, 1, 1] := by
    have h : elemN [1, 1, 0, 0] = 2 := by decide
    unfold encS
    rw [h, code2]
    simp [code1]
  rw [List.nil_append, he] at ho
  obtain ⟨a, n, c, rfl⟩ := ho.isSliceN
  exact ⟨a, n, c, rfl, ho.byts (lit_all (by decide)), hb⟩
theorem aw_st (W : World) (v : Value) (hB : Byts W v [2, 1, 1]) : Calls Try.prog 25 #[v] W fun e w' => ∃ vr, e = .returned (.tuple #[.agg #[.int .u64 1, .int .u64 1, .int .u64 0, .int .u64 0], vr, .int .i64 0]) ∧ Below W.heap.size W w' := by
  refine (set_c v [2, 1, 1] W hB (by decide)).mono ?_
  rintro e w' ⟨vr, rfl, hB, hb⟩
  have hd : decS [2, 1, 1] = (0, [1, 1, 0, 0], []) := by decide +kernel
  rw [hd]
  exact ⟨vr, rfl, hb⟩
theorem seal97 : sealL [97] = [97, 44, 41, 12, 228] := by decide +kernel
theorem sum97 : sumL [97] = 3826002220 := by decide +kernel
theorem aw_se (W : World) (g : Nat) (hg : g = W.heap.size) : Calls Try.prog 31 #[(.slice (some ⟨g, 0, none⟩) 1 1)] (W.alloc (.cells #[.int .u8 97] 5)) fun e w' => ∃ a n c, e = .returned (.slice a n c) ∧ Byts w' (.slice a n c) [97, 44, 41, 12, 228] ∧ Below W.heap.size W w' := by
  refine (seal_c _ [97] _ (byts_of (q := [97]) (lit_all (by decide)) (Blk.here hg)) (by decide)).mono ?_
  rintro e w' ⟨v, rfl, ho, hb⟩
  rw [seal97] at ho
  obtain ⟨a, n, c, rfl⟩ := ho.isSliceN
  exact ⟨a, n, c, rfl, ho.byts (lit_all (by decide)), below_lit hb⟩
theorem aw_op (W : World) (v : Value) (hB : Byts W v [97, 44, 41, 12, 228]) : Calls Try.prog 29 #[v] W fun e w' => ∃ vr, e = .returned (.tuple #[vr, .int .i64 0]) ∧ Byts w' vr [97] ∧ Below W.heap.size W w' := by
  refine (open_c v [97, 44, 41, 12, 228] W hB (by decide)).mono ?_
  rintro e w' ⟨vr, rfl, hB, hb⟩
  have hd : openL [97, 44, 41, 12, 228] = (0, [97]) := by rw [← seal97]; exact open_seal _
  rw [hd] at hB ⊢
  exact ⟨vr, rfl, hB, hb⟩
theorem aw_sg (W : World) (g : Nat) (hg : g = W.heap.size) : Calls Try.prog 14 #[(.slice (some ⟨g, 0, none⟩) 1 1)] (W.alloc (.cells #[.int .u8 1] 5)) fun e w' => ∃ vr, e = .returned (.tuple #[.int .i64 (-1), vr, .int .i64 0]) ∧ Below W.heap.size W w' := by
  refine (signed_c _ [1] _ (byts_of (q := [1]) (lit_all (by decide)) (Blk.here hg)) (by decide)).mono ?_
  rintro e w' ⟨vr, rfl, hB, hb⟩
  have hd : dec [1] = (0, 1, 1) := by decide
  rw [hd]
  exact ⟨vr, rfl, below_lit hb⟩
theorem aw_sum (W : World) (g : Nat) (hg : g = W.heap.size) : Calls Try.prog 32 #[(.slice (some ⟨g, 0, none⟩) 1 1)] (W.alloc (.cells #[.int .u8 97] 5)) fun e w' => e = .returned (.int .u32 3826002220) ∧ Below W.heap.size W w' := by
  refine (sum_c _ [97] _ (byts_of (q := [97]) (lit_all (by decide)) (Blk.here hg)) (by decide)).mono ?_
  rintro e w' ⟨rfl, rfl⟩
  rw [sum97]
  exact ⟨rfl, (Below.refl _ _).alloc (Nat.le_refl _) _⟩
theorem aw_psg (W : World) : Calls Try.prog 19 #[.slice none 0 0, .int .i64 (-1)] W fun e w' => ∃ a n c, e = .returned (.slice a n c) ∧ Byts w' (.slice a n c) [1] ∧ Below W.heap.size W w' := by
  refine (putSigned_c _ [] (-1) W Byts.nil (by decide) (by decide) (by decide)).mono ?_
  rintro e w' ⟨v, rfl, ho, hb⟩
  have h : code (foldN (-1)).toNat = [1] := code1
  rw [List.nil_append, h] at ho
  obtain ⟨a, n, c, rfl⟩ := ho.isSliceN
  exact ⟨a, n, c, rfl, ho.byts (lit_all (by decide)), hb⟩
theorem aw_pt (W : World) : Calls Try.prog 23 #[.slice none 0 0, .string ⟨#[97, 98]⟩] W fun e w' => ∃ a n c, e = .returned (.slice a n c) ∧ Byts w' (.slice a n c) [2, 97, 98] ∧ Below W.heap.size W w' := by
  refine (putText_c _ [] ⟨#[97, 98]⟩ W Byts.nil (by decide) (by decide)).mono ?_
  rintro e w' ⟨v, rfl, ho, hb⟩
  have h : encT ⟨#[97, 98]⟩ = [2, 97, 98] := by
    unfold encT
    rw [show (⟨#[97, 98]⟩ : ByteArray).size = 2 from rfl, code2]
    rfl
  rw [List.nil_append, h] at ho
  obtain ⟨a, n, c, rfl⟩ := ho.isSliceN
  exact ⟨a, n, c, rfl, ho.byts (lit_all (by decide)), hb⟩
theorem aw_eqa (W : World) (g : Nat) (hg : g = W.heap.size) (v : Value) (hB : Byts W v [172, 2]) : Calls Try.prog 16 #[v, (.slice (some ⟨g, 0, none⟩) 2 2)] (W.alloc (.cells #[.int .u8 172, .int .u8 2] 5)) fun e w' => e = .returned (.bool true) ∧ Below W.heap.size W w' := by
  refine (same_c v _ [172, 2] [172, 2] _ (hB.alloc _) (byts_of (q := [172, 2]) (lit_all (by decide)) (Blk.here hg)) (by decide) (by decide)).mono ?_
  rintro e w' ⟨rfl, hb⟩
  rw [sameI_self]
  exact ⟨rfl, below_lit hb⟩
theorem aw_eqb (W : World) (g : Nat) (hg : g = W.heap.size) (v : Value) (hB : Byts W v [9]) : Calls Try.prog 16 #[v, (.slice (some ⟨g, 0, none⟩) 1 1)] (W.alloc (.cells #[.int .u8 9] 5)) fun e w' => e = .returned (.bool true) ∧ Below W.heap.size W w' := by
  refine (same_c v _ [9] [9] _ (hB.alloc _) (byts_of (q := [9]) (lit_all (by decide)) (Blk.here hg)) (by decide) (by decide)).mono ?_
  rintro e w' ⟨rfl, hb⟩
  rw [sameI_self]
  exact ⟨rfl, below_lit hb⟩
theorem aw_eqc (W : World) (g : Nat) (hg : g = W.heap.size) (v : Value) (hB : Byts W v [2, 1, 1]) : Calls Try.prog 16 #[v, (.slice (some ⟨g, 0, none⟩) 3 3)] (W.alloc (.cells #[.int .u8 2, .int .u8 1, .int .u8 1] 5)) fun e w' => e = .returned (.bool true) ∧ Below W.heap.size W w' := by
  refine (same_c v _ [2, 1, 1] [2, 1, 1] _ (hB.alloc _) (byts_of (q := [2, 1, 1]) (lit_all (by decide)) (Blk.here hg)) (by decide) (by decide)).mono ?_
  rintro e w' ⟨rfl, hb⟩
  rw [sameI_self]
  exact ⟨rfl, below_lit hb⟩
theorem aw_eqd (W : World) (g : Nat) (hg : g = W.heap.size) (v : Value) (hB : Byts W v [97, 44, 41, 12, 228]) : Calls Try.prog 16 #[v, (.slice (some ⟨g, 0, none⟩) 5 5)] (W.alloc (.cells #[.int .u8 97, .int .u8 44, .int .u8 41, .int .u8 12, .int .u8 228] 5)) fun e w' => e = .returned (.bool true) ∧ Below W.heap.size W w' := by
  refine (same_c v _ [97, 44, 41, 12, 228] [97, 44, 41, 12, 228] _ (hB.alloc _) (byts_of (q := [97, 44, 41, 12, 228]) (lit_all (by decide)) (Blk.here hg)) (by decide) (by decide)).mono ?_
  rintro e w' ⟨rfl, hb⟩
  rw [sameI_self]
  exact ⟨rfl, below_lit hb⟩
theorem aw_eqe (W : World) (g : Nat) (hg : g = W.heap.size) (v : Value) (hB : Byts W v [97]) : Calls Try.prog 16 #[v, (.slice (some ⟨g, 0, none⟩) 1 1)] (W.alloc (.cells #[.int .u8 97] 5)) fun e w' => e = .returned (.bool true) ∧ Below W.heap.size W w' := by
  refine (same_c v _ [97] [97] _ (hB.alloc _) (byts_of (q := [97]) (lit_all (by decide)) (Blk.here hg)) (by decide) (by decide)).mono ?_
  rintro e w' ⟨rfl, hb⟩
  rw [sameI_self]
  exact ⟨rfl, below_lit hb⟩
theorem aw_eqf (W : World) (g : Nat) (hg : g = W.heap.size) (v : Value) (hB : Byts W v [1]) : Calls Try.prog 16 #[v, (.slice (some ⟨g, 0, none⟩) 1 1)] (W.alloc (.cells #[.int .u8 1] 5)) fun e w' => e = .returned (.bool true) ∧ Below W.heap.size W w' := by
  refine (same_c v _ [1] [1] _ (hB.alloc _) (byts_of (q := [1]) (lit_all (by decide)) (Blk.here hg)) (by decide) (by decide)).mono ?_
  rintro e w' ⟨rfl, hb⟩
  rw [sameI_self]
  exact ⟨rfl, below_lit hb⟩
theorem aw_eqg (W : World) (g : Nat) (hg : g = W.heap.size) (v : Value) (hB : Byts W v [2, 97, 98]) : Calls Try.prog 16 #[v, (.slice (some ⟨g, 0, none⟩) 3 3)] (W.alloc (.cells #[.int .u8 2, .int .u8 97, .int .u8 98] 5)) fun e w' => e = .returned (.bool true) ∧ Below W.heap.size W w' := by
  refine (same_c v _ [2, 97, 98] [2, 97, 98] _ (hB.alloc _) (byts_of (q := [2, 97, 98]) (lit_all (by decide)) (Blk.here hg)) (by decide) (by decide)).mono ?_
  rintro e w' ⟨rfl, hb⟩
  rw [sameI_self]
  exact ⟨rfl, below_lit hb⟩
@[go_sem] theorem setTwo (a b : Int) (w : World) : (Instr.build 40 #[(0, .int .u64 a), (1, .int .u64 b)]).run Try.prog w = .ok (.agg #[.int .u64 a, .int .u64 b, .int .u64 0, .int .u64 0]) w := run_build w 40 _ _ (by kernel_rfl)
set_option maxRecDepth 100000 in
theorem short_c (v : Value) (l : List Int) (w : World) (hB : Byts w v l) (hn : l.length ≤ 9223372036854775807) :
    Calls Try.prog 10 #[v] w fun e w' => e = .returned (.bool (decide ((l.length : Int) ≤ 400))) ∧ w' = w := by
  obtain ⟨_, ao, cap, rfl, hcap, _, _⟩ := hB
  go_enter Try.func10, Try.ntmps10
  go_wp2
  go_ret
  exact ⟨rfl, rfl⟩
set_option maxRecDepth 100000 in
theorem front_c (a b c : Value) (l m k : List Int) (w : World) (hA : Byts w a l) (hB : Byts w b m) (hC : Byts w c k) (h1 : l.length ≤ 400000000) (h2 : m.length ≤ 400000000) (h3 : k.length ≤ 1000000000) :
    Calls Try.prog 35 #[a, b, c] w fun e w' => e = .returned (.bool (sameI (l ++ m) k)) ∧ Below w.heap.size w w' := by
  have hG := glue_c a b l m w hA hB h1 h2
  go_enter Try.func35, Try.ntmps35
  go_wp2_with (first
    | (go_at_call 40; refine hG.mono ?_; rintro e w2 ⟨v2, rfl, ho2, hb2⟩)
    | (go_at_call 16; refine (same_c _ _ (l ++ m) k _ (ho2.byts (hA.all.app hB.all)) (hC.keep hb2) (by rw [List.length_append]; omega) (by omega)).mono ?_; rintro e w3 ⟨rfl, hb3⟩))
  go_ret
  exact ⟨rfl, hb2.trans (hb3.mono hb2.size)⟩
end Go.Proofs.Ytohmlmbolilbbaa
