/- Part of the proof: Cxg Lva Lvb Lvc Cxh. No conditions. -/
import Derived.Test.YtbhoofihnmmmfabGreatYaf
import Derived.Test.YtbhoofihnmmmfabGreatYaa
import Derived.Laws.BitsAllLaws
import Derived.Laws.Shifts
import Derived.Below
import Derived.Laws.StructEq
import Derived.Deep.RegionHeld3
namespace Go.Proofs.YtbhoofihnmmmfabGreat
open Go.RowKit
theorem feL_no {F : X → Int} : ∀ {ks : List X}, (∀ j (hj : j < ks.length), F ks[j] = 0) → feL F ks = 0
 | [], _ => rfl
 | k :: r, h => by
   unfold feL
   have h0 : F k = 0 := h 0 (by simp)
   rw [if_neg (by simp [h0])]
   exact feL_no fun j hj => h (j + 1) (by simpa using hj)
theorem feL_at {F : X → Int} : ∀ {ks : List X} {i : Nat} (hi : i < ks.length), (∀ j (hj : j < ks.length), j < i → F ks[j] = 0) → F ks[i] ≠ 0 → feL F ks = F ks[i]
 | k :: r, 0, _, _, h => by
   unfold feL
   have h : F k ≠ 0 := h
   rw [if_pos h]; rfl
 | k :: r, i + 1, hi, h, hn => by
   unfold feL
   have h0 : F k = 0 := h 0 (by simp) (by omega)
   rw [if_neg (by simp [h0])]
   have := feL_at (F := F) (ks := r) (i := i) (by simpa using hi) (fun j hj hji => h (j + 1) (by simpa using hj) (by omega)) hn
   rw [this]; rfl
theorem more_kid {n : Nat} {x : X} (h : more (n + 1) x = false) {i : Nat} (hi : i < x.ks.length) : more n x.ks[i] = false := by
 have h : x.ks.any (more n) = false := h
 rw [List.any_eq_false] at h
 simpa using h _ (List.getElem_mem hi)
set_option maxRecDepth 100000 in
set_option maxHeartbeats 16000000 in
theorem firstErrorW_c (A : Int) (gv : Nat) : ∀ (n : Nat) (x : X) (g o : Nat) (w : World), more n x = false → XAt w g o x → g < w.heap.size → Blk w gv 3 #[.int .i64 A] →
 Calls Tryz.prog 93 #[.pointer (some ⟨g, o, none⟩), .func (.func 69) #[] #[.pointer (some ⟨gv, 0, none⟩)]] w fun e w' => e = .returned (.int .i64 (fe (opE A) n x)) ∧ Below w.heap.size w w' := by
 intro n
 induction n with
 | zero => intro x g o w h; exact absurd h (by unfold more; simp)
 | succ n ih =>
   intro x g o w hm hX hg hv
   have HIH := Lib.hid ih
   have HM := Lib.hid hm
   have HX := Lib.hid hX
   have HG := Lib.hid hg
   have HV := Lib.hid hv
   have hkI : (x.ks.length : Int) ≤ 9223372036854775807 := by have h := hX.w.nk; unfold maxLen at h; omega
   obtain ⟨ao, cap, ak, ck, hc, hk, -⟩ := hX.xc
   have HC := Lib.hid hc
   have HK := Lib.hid hk
   have HE : Hid (fe (opE A) (n + 1) x = if opE A x ≠ 0 then opE A x else feL (fe (opE A) n) x.ks) := Lib.hid rfl
   obtain ⟨e0, he0⟩ : ∃ e0, opE A x = e0 := ⟨_, rfl⟩
   have HO : Hid (Calls Tryz.prog 69 #[.pointer (some ⟨g, o, none⟩), .pointer (some ⟨gv, 0, none⟩)] w fun e w' => e = .returned (.int .i64 e0) ∧ Below w.heap.size w w') := Lib.hid (by rw [← he0]; exact wellClosure_c x g o gv A w hX hg hv)
   rw [he0] at HE
   generalize fe (opE A) (n + 1) x = FE at *
   clear ih hm hX hg hv hc hk he0
   by_cases hz : e0 = 0
   · subst hz
     rw [if_neg (by simp)] at HE
     go_enter Tryz.func93, Tryz.ntmps93
     go_wp2_with (go_at_call 69; refine HO.out.mono ?_; rintro e w1 ⟨rfl, hb1⟩; have HB1 := Lib.hid hb1; obtain ⟨x0, x1, x2, x3, x4, x5, x6, x7, x8, x9⟩ := (HC.out.keep (hb1.block g HG.out)).cells; clear hb1 x0 x1 x2 x3 x4 x5 x6 x7 x8)
     go_loopw [6, 7, 19] (fun v6 v7 v19 wr => ∃ i : Nat, i ≤ x.ks.length ∧ v19 = .int .i64 i ∧ Hid (∀ j (hj : j < x.ks.length), j < i → fe (opE A) n x.ks[j] = 0) ∧ Hid (Below w.heap.size w wr)) (fun _ _ v19 _ => x.ks.length - (intOf v19).toNat)
     case atStart => exact ⟨0, Nat.zero_le _, rfl, Lib.hid (fun j _ h => absurd h (by omega)), HB1⟩
     case round =>
      obtain ⟨i, hi, rfl, HJ, HB⟩ := hrel
      by_cases hlt : i < x.ks.length
      · have hlt' : (i : Int) < (x.ks.length : Int) := by omega
        obtain ⟨y, hy⟩ : ∃ y, x.ks[i] = y := ⟨_, rfl⟩
        obtain ⟨g', o', hak, hg', hR⟩ := HK.out.row hlt
        subst hak
        have hA := hR i hlt
        rw [hy] at hA
        have HA : Hid (XAt wr g' (o' + i * 10) y) := Lib.hid (hA.keep HB.out hg')
        have HGW : Hid (g' < wr.heap.size) := Lib.hid (Nat.lt_of_lt_of_le hg' HB.out.size)
        have HVW : Hid (Blk wr gv 3 #[.int .i64 A]) := Lib.hid (HV.out.keep HB.out)
        obtain ⟨x0, x1, x2, x3, x4, x5, x6, x7, x8, x9⟩ := (HC.out.keep (HB.out.block g HG.out)).cells
        have HY := Lib.hid hy
        have HMY : Hid (more n y = false) := Lib.hid (by rw [← hy]; exact more_kid HM.out hlt)
        clear hA hR hg' hy x0 x1 x2 x3 x4 x5 x6 x7 x8
        obtain ⟨b, hb⟩ : ∃ b, fe (opE A) n y = b := ⟨_, rfl⟩
        have HBB := Lib.hid hb
        have HCL : Hid (Calls Tryz.prog 93 #[.pointer (some ⟨g', o' + i * 10, none⟩), .func (.func 69) #[] #[.pointer (some ⟨gv, 0, none⟩)]] wr fun e w' => e = .returned (.int .i64 b) ∧ Below wr.heap.size wr w') := Lib.hid (by
         rw [← hb]
         exact HIH.out y g' (o' + i * 10) wr HMY.out HA.out HGW.out HVW.out)
        clear hb
        by_cases hz : b = 0
        · subst hz
          go_wp2_with (go_at_call 93; (with_reducible refine HCL.out.mono ?_); rintro e w1 ⟨rfl, hb1⟩; have HB2 := Lib.hid (HB.out.trans (hb1.mono HB.out.size)); clear hb1)
          go_roundw
          case rel =>
           refine ⟨i + 1, hlt, by go_num, Lib.hid (fun j hj hji => ?_), HB2⟩
           by_cases e : j < i
           · exact HJ.out j hj e
           · obtain rfl : j = i := by omega
             rw [HY.out]; exact HBB.out
          case measure => simp [intOf]; omega
        · have hz1 : (b == 0) = false := by simpa using hz
          have hz2 : (b != 0) = true := by simpa using hz
          have HF : Hid (FE = b) := Lib.hid (by rw [HE.out, feL_at hlt HJ.out (by rw [HY.out, HBB.out]; exact hz), HY.out, HBB.out])
          clear hz
          go_wp2_with (go_at_call 93; (with_reducible refine HCL.out.mono ?_); rintro e w1 ⟨rfl, hb1⟩; have HB2 := Lib.hid (HB.out.trans (hb1.mono HB.out.size)); clear hb1)
          go_ret
          exact ⟨congrArg (fun t => Ending.returned (.int .i64 t)) HF.out.symm, HB2.out⟩
      · have hlt' : ¬ (i : Int) < (x.ks.length : Int) := by omega
        have HF : Hid (FE = 0) := Lib.hid (by rw [HE.out]; exact feL_no fun j hj => HJ.out j hj (by omega))
        go_wp2_with fail
        go_ret
        exact ⟨congrArg (fun t => Ending.returned (.int .i64 t)) HF.out.symm, HB.out⟩
   · rw [if_pos hz] at HE
     have hz1 : (e0 == 0) = false := by simpa using hz
     have hz2 : (e0 != 0) = true := by simpa using hz
     clear hz
     go_enter Tryz.func93, Tryz.ntmps93
     go_wp2_with (go_at_call 69; refine HO.out.mono ?_; rintro e w1 ⟨rfl, hb1⟩; have HB1 := Lib.hid hb1; clear hb1)
     go_ret
     exact ⟨congrArg (fun t => Ending.returned (.int .i64 t)) HE.out.symm, HB1.out⟩
/-- the error of an expression, over the closure -/
def chkE (A : Int) (x : X) : Int := if more 12 x = true then 4 else fe (opE A) 12 x
set_option maxRecDepth 100000 in
set_option maxHeartbeats 8000000 in
theorem checkW_c (A : Int) (gv : Nat) (x : X) (g o : Nat) (w : World) (hX : XAt w g o x) (hg : g < w.heap.size) (hv : Blk w gv 3 #[.int .i64 A]) :
 Calls Tryz.prog 68 #[.pointer (some ⟨g, o, none⟩), .func (.func 69) #[] #[.pointer (some ⟨gv, 0, none⟩)]] w fun e w' => e = .returned (.int .i64 (chkE A x)) ∧ Below w.heap.size w w' := by
 unfold chkE
 have HT := Lib.hid (tooDeep_c x g o w hX hg)
 cases hm : more 12 x with
 | true =>
   rw [hm] at HT
   rw [if_pos rfl]
   clear hX hg hv hm
   go_enter Tryz.func68, Tryz.ntmps68
   go_wp2_with (go_at_call 37; refine HT.out.mono ?_; rintro e w1 ⟨rfl, hb1⟩)
   go_ret
   exact ⟨rfl, hb1⟩
 | false =>
   rw [hm] at HT
   rw [if_neg (by simp)]
   have HX := Lib.hid hX
   have HG := Lib.hid hg
   have HV := Lib.hid hv
   have HM := Lib.hid hm
   clear hX hg hv hm
   go_enter Tryz.func68, Tryz.ntmps68
   go_wp2_with (first
    | (go_at_call 37; refine HT.out.mono ?_; rintro e w1 ⟨rfl, hb1⟩; have HB1 := Lib.hid hb1; clear hb1)
    | (go_at_call 93; refine (firstErrorW_c A gv 12 x g o _ HM.out (HX.out.keep HB1.out HG.out) (Nat.lt_of_lt_of_le HG.out HB1.out.size) (HV.out.keep HB1.out)).mono ?_; rintro e w2 ⟨rfl, hb2⟩; have HB2 := Lib.hid (HB1.out.trans (hb2.mono HB1.out.size)); clear hb2))
   go_ret
   exact ⟨rfl, HB2.out⟩
/-- the expression has a value -/
def wfX (x : X) : Bool := decide (chkE 15 x = 0)
set_option maxRecDepth 100000 in
set_option maxHeartbeats 8000000 in
theorem isWellFormed_c (x : X) (g o : Nat) (w : World) (hX : XAt w g o x) (hg : g < w.heap.size) :
 Calls Tryz.prog 40 #[.pointer (some ⟨g, o, none⟩)] w fun e w' => e = .returned (.bool (wfX x)) ∧ Below w.heap.size w w' := by
 have HX := Lib.hid hX
 have HG := Lib.hid hg
 obtain ⟨c, hc⟩ : ∃ c, chkE 15 x = c := ⟨_, rfl⟩
 have HW : Hid (wfX x = (c == 0)) := Lib.hid (by unfold wfX; rw [hc]; by_cases h : c = 0 <;> simp [h])
 have HCE := Lib.hid hc
 clear hX hg hc
 go_enter Tryz.func40, Tryz.ntmps40
 go_wp2_with (first
  | (go_at_call 38; refine (attributes_c true _).mono ?_; rintro e w1 ⟨rfl, hb1⟩; have HB1 := Lib.hid hb1; have HB2 : Hid (Below w.heap.size w (w1.alloc (.cells #[.int .i64 15] 3))) := Lib.hid (hb1.alloc hb1.size _); clear hb1)
  | (go_at_call 68; (refine (checkW_c 15 w1.heap.size x g o (w1.alloc (.cells #[.int .i64 15] 3)) (HX.out.keep HB2.out HG.out) (Nat.lt_of_lt_of_le HG.out HB2.out.size) (Blk.new _ _ _)).mono ?_); rw [HCE.out]; rintro e w2 ⟨rfl, hb2⟩; have HB3 := Lib.hid (HB2.out.trans (hb2.mono HB2.out.size)); clear hb2))
 go_ret
 exact ⟨ret_bool HW.out.symm, HB3.out⟩
open Go.RowKit
def U64n : Nat := 18446744073709551616
/-- has bit n -/
def hasL (c : Nat) (n : Int) : Bool := decide (0 ≤ n ∧ n < 64) && c.testBit n.toNat
theorem hasL_in (c n : Nat) (h : n < 64) : hasL c n = c.testBit n := by
 unfold hasL
 rw [decide_eq_true (by omega)]
 simp
theorem hasL_out (c : Nat) {n : Int} (h : ¬ (0 ≤ n ∧ n < 64)) : hasL c n = false := by
 unfold hasL
 rw [decide_eq_false h]
 rfl
/-- b has no bit that a lacks -/
def subL (a b : Nat) : Bool := decide (b &&& (18446744073709551615 - a) = 0)
theorem subL_iff {a b : Nat} (ha : a < U64n) : subL a b = true ↔ ∀ n : Nat, n < 64 → b.testBit n = true → a.testBit n = true := by
 unfold subL
 rw [decide_eq_true_eq]
 have ht : ∀ i, (18446744073709551615 - a).testBit i = (decide (i < 64) && !a.testBit i) := fun i => by
  have h := Nat.testBit_two_pow_sub_succ (x := a) (n := 64) ha i
  rw [← h, show 18446744073709551615 - a = 2 ^ 64 - (a + 1) by omega]
 constructor
 · intro h n hn hbn
   have := congrArg (fun x : Nat => x.testBit n) h
   simp only [Nat.testBit_and, ht, hbn, Nat.zero_testBit, Bool.true_and, decide_eq_true hn] at this
   simpa using this
 · intro h
   apply Nat.eq_of_testBit_eq
   intro i
   rw [Nat.testBit_and, ht, Nat.zero_testBit]
   by_cases hi : i < 64
   · cases hbi : b.testBit i
     · rfl
     · rw [h i hi hbi]; simp
   · rw [decide_eq_false hi]; simp
def domL (s : Int) (c : Nat) (s' : Int) (c' : Nat) : Bool := decide (s' ≤ s) && subL c c'
def relL (s : Int) (c : Nat) (s' : Int) (c' : Nat) : Int := if s = s' ∧ c = c' then 0 else if domL s c s' c' = true then 2 else if domL s' c' s c = true then 3 else 4
def allSub (a b : Nat) (k : Nat) : Prop := ∀ n : Nat, n < k → ¬ (hasL b n = true ∧ hasL a n = false)
theorem allSub_end {a b : Nat} (ha : a < U64n) (h : allSub a b 64) : subL a b = true := (subL_iff ha).2 fun n hn hbn => by
 cases hh : a.testBit n
 · exact absurd ⟨by rw [hasL_in b n hn]; exact hbn, by rw [hasL_in a n hn]; exact hh⟩ (h n hn)
 · rfl
theorem allSub_no {a b : Nat} (ha : a < U64n) {n : Nat} (hn : n < 64) (h1 : hasL b n = true) (h2 : hasL a n = false) : subL a b = false := by
 cases hl : subL a b
 · rfl
 · have := (subL_iff ha).1 hl n hn (by rw [← hasL_in b n hn]; exact h1)
   rw [hasL_in a n hn, this] at h2
   cases h2
/-- bit n, as the walk has it -/
theorem bit_walk (c n : Nat) (hc : c < U64n) (hn : n < 64) : (bits .and .u64 ((c : Int) / 2 ^ n) 1 == 1) = hasL c n := by
 have h1 : ((c : Int) / 2 ^ n) = ((c / 2 ^ n : Nat) : Int) := by simp
 have h2 : c / 2 ^ n < 18446744073709551616 := Nat.lt_of_le_of_lt (Nat.div_le_self _ _) hc
 have h3 : bits .and .u64 ((c / 2 ^ n : Nat) : Int) ((1 : Nat) : Int) = ((c / 2 ^ n &&& 1 : Nat) : Int) := u64_and_nat _ _ h2 (by decide)
 rw [h1, show (1 : Int) = ((1 : Nat) : Int) from rfl, h3, Nat.and_one_is_mod, hasL_in c n hn, Nat.testBit_eq_decide_div_mod_eq]
 rw [Bool.eq_iff_iff]
 simp
 omega
open Go.RowKit
theorem ret_b {a b : Bool} (h : a = b) : Ending.returned (.bool a) = .returned (.bool b) := by rw [h]
theorem sub_walk (c c' : Nat) (hc : c < U64n) (hc' : c' < U64n) : (bits .andNot .u64 (c' : Int) (c : Int) == 0) = subL c c' := by
 rw [u64_andNot_nat c' c hc' hc]
 unfold subL
 rw [Bool.eq_iff_iff]
 simp
set_option maxRecDepth 100000 in
set_option maxHeartbeats 2000000 in
theorem dominates_c (s : Int) (c : Nat) (s' : Int) (c' : Nat) (w : World) (hc : c < U64n) (hc' : c' < U64n) :
 Calls Tryz.prog 100 #[.agg #[.int .i64 s, .int .u64 c], .agg #[.int .i64 s', .int .u64 c']] w fun e w' => e = .returned (.bool (domL s c s' c')) ∧ Below w.heap.size w w' := by
 have HW := Lib.hid (sub_walk c c' hc hc')
 unfold domL
 by_cases h : s' ≤ s
 · rw [decide_eq_true h, Bool.true_and]
   go_enter Tryz.func100, Tryz.ntmps100
   go_wp2_with fail
   go_ret
   exact ⟨ret_b HW.out, ((Below.refl _ _).alloc (Nat.le_refl _) _).alloc (by simp) _⟩
 · rw [decide_eq_false h]
   go_enter Tryz.func100, Tryz.ntmps100
   go_wp2_with fail
   go_ret
   exact ⟨rfl, ((Below.refl _ _).alloc (Nat.le_refl _) _).alloc (by simp) _⟩
set_option maxRecDepth 100000 in
set_option maxHeartbeats 2000000 in
theorem rhas5_c (s : Int) (c : Nat) (n : Int) (w : World) (hc : c < U64n) :
 Calls Tryz.prog 123 #[.agg #[.int .i64 s, .int .u64 c], .int .i64 n] w fun e w' => e = .returned (.bool (hasL c n)) ∧ Below w.heap.size w w' := by
 by_cases h : 0 ≤ n ∧ n < 64
 · obtain ⟨k, rfl⟩ : ∃ k : Nat, n = k := ⟨n.toNat, by omega⟩
   obtain ⟨_, h1⟩ := h
   have hb := bit_walk c k hc (by omega)
   have HB := Lib.hid hb
   have hm : min k 64 = k := by omega
   clear hb
   go_enter Tryz.func123, Tryz.ntmps123
   go_wp2_with fail
   go_ret
   exact ⟨ret_b HB.out, (Below.refl _ _).alloc (Nat.le_refl _) _⟩
 · rw [hasL_out c h]
   rcases (by omega : n < 0 ∨ ¬ n < 0 ∧ 64 ≤ n) with h0 | ⟨h0, h1⟩
   all_goals
    go_enter Tryz.func123, Tryz.ntmps123
    go_wp2_with fail
    go_ret
    exact ⟨rfl, (Below.refl _ _).alloc (Nat.le_refl _) _⟩
theorem Blk.box2 {w : World} {g : Nat} {t : TypeId} {a b : Value} (h : Blk w g t #[a, b]) : w.cell? ⟨g, 0, none⟩ = some a ∧ w.cell? ⟨g, 1, none⟩ = some b := ⟨h.cell 0, h.cell 1⟩
/-- two boxes, one behind the other -/
theorem two_box (w : World) (t t' : TypeId) (cs cs' : Array Value) : Blk ((w.alloc (.cells cs t)).alloc (.cells cs' t')) w.heap.size t cs ∧ Blk ((w.alloc (.cells cs t)).alloc (.cells cs' t')) (w.heap.size + 1) t' cs' ∧ Below w.heap.size w ((w.alloc (.cells cs t)).alloc (.cells cs' t')) ∧ ((w.alloc (.cells cs t)).alloc (.cells cs' t')).heap.size = w.heap.size + 2 := by
 refine ⟨(Blk.new w _ _).alloc _, ?_, ((Below.refl _ _).alloc (Nat.le_refl _) _).alloc (by simp) _, by simp⟩
 have := Blk.new (w.alloc (.cells cs t)) t' cs'
 simpa using this
set_option maxRecDepth 100000 in
set_option maxHeartbeats 4000000 in
theorem rdominates_c (s : Int) (c : Nat) (s' : Int) (c' : Nat) (w : World) (hc : c < U64n) (hc' : c' < U64n) :
 Calls Tryz.prog 112 #[.agg #[.int .i64 s, .int .u64 c], .agg #[.int .i64 s', .int .u64 c']] w fun e w' => e = .returned (.bool (domL s c s' c')) ∧ Below w.heap.size w w' := by
 obtain ⟨R, hR⟩ : ∃ R, domL s c s' c' = R := ⟨_, rfl⟩
 rw [hR]
 have HR := Lib.hid hR
 clear hR
 have HH := Lib.hid (fun (n : Int) (w : World) => rhas5_c s c n w hc)
 have HH2 := Lib.hid (fun (n : Int) (w : World) => rhas5_c s' c' n w hc')
 obtain ⟨hB, hB2, hW, _⟩ := two_box w 42 42 #[.int .i64 s, .int .u64 c] #[.int .i64 s', .int .u64 c']
 go_enter Tryz.func112, Tryz.ntmps112
 go_wp2_with fail
 generalize (w.alloc (.cells #[.int .i64 s, .int .u64 c] 42)).alloc (.cells #[.int .i64 s', .int .u64 c'] 42) = W at *
 have HB := Lib.hid hB
 have HB2 := Lib.hid hB2
 have HW := Lib.hid hW
 clear hB hB2 hW
 go_loopw [5] (fun vi wr => ∃ i : Nat, i ≤ 64 ∧ vi = .int .i64 i ∧ Hid (allSub c c' i) ∧ Kp W wr) (fun vi _ => 64 - (intOf vi).toNat)
 case atStart => exact ⟨0, Nat.zero_le _, rfl, Lib.hid (fun n h => by omega), Kp.rfl'⟩
 case round =>
  obtain ⟨i, hi, rfl, HA, hC⟩ := hrel
  obtain ⟨p0, p1⟩ := (hC.blk HB.out).box2
  obtain ⟨q0, q1⟩ := (hC.blk HB2.out).box2
  by_cases hlt : i < 64
  · have hlt' : (i : Int) < 64 := by omega
    have step : ∀ (h : ¬ (hasL c' i = true ∧ hasL c i = false)), Hid (allSub c c' (i + 1)) := fun hno => Lib.hid fun n hn => by
     rcases Nat.lt_or_ge n i with h | h
     · exact HA.out n h
     · obtain rfl : n = i := by omega
       exact hno
    have HST := Lib.hid step
    clear step
    cases hh : hasL c' i
    · have HX := Lib.hid (HH2.out i wr)
      rw [hh] at HX
      have HA2 := HST.out (by rw [hh]; simp)
      clear hh
      go_wp2_with (go_at_call 123; refine HX.out.mono ?_; rintro e w2 ⟨rfl, hb2⟩)
      go_roundw
      case rel => exact ⟨i + 1, hlt, by go_num, HA2, hC.step hb2⟩
      case measure => simp [intOf]; omega
    · have HX := Lib.hid (HH2.out i wr)
      rw [hh] at HX
      cases hg : hasL c i
      · have hR0 : R = false := by rw [← HR.out]; unfold domL; rw [allSub_no hc hlt hh hg, Bool.and_false]
        subst hR0
        have HY := Lib.hid (fun w => HH.out i w)
        rw [hg] at HY
        clear hh hg HR
        go_wp2_with fail
        refine HX.out.mono ?_
        rintro e w2 ⟨rfl, hb2⟩
        have hC2 := hC.step hb2
        obtain ⟨r0, r1⟩ := (hC2.blk HB.out).box2
        go_wp2_with fail
        refine (HY.out w2).mono ?_
        rintro e w3 ⟨rfl, hb3⟩
        go_wp2_with fail
        go_ret
        exact ⟨rfl, HW.out.trans (Below.mono (hC2.step hb3) HW.out.size)⟩
      · have HA2 := HST.out (by rw [hg]; simp)
        have HY := Lib.hid (fun w => HH.out i w)
        rw [hg] at HY
        clear hh hg
        go_wp2_with fail
        refine HX.out.mono ?_
        rintro e w2 ⟨rfl, hb2⟩
        have hC2 := hC.step hb2
        obtain ⟨r0, r1⟩ := (hC2.blk HB.out).box2
        go_wp2_with fail
        refine (HY.out w2).mono ?_
        rintro e w3 ⟨rfl, hb3⟩
        go_wp2_with fail
        go_roundw
        case rel => exact ⟨i + 1, hlt, by go_num, HA2, hC2.step hb3⟩
        case measure => simp [intOf]; omega
  · obtain rfl : i = 64 := by omega
    have hR0 : R = decide (s' ≤ s) := by rw [← HR.out]; unfold domL; rw [allSub_end hc HA.out, Bool.and_true]
    clear HR
    by_cases h0 : s' ≤ s
    · obtain rfl : R = true := hR0.trans (decide_eq_true h0)
      clear hR0
      go_wp2_with fail
      go_ret
      exact ⟨rfl, HW.out.trans (Below.mono hC HW.out.size)⟩
    · obtain rfl : R = false := hR0.trans (decide_eq_false h0)
      clear hR0
      go_wp2_with fail
      go_ret
      exact ⟨rfl, HW.out.trans (Below.mono hC HW.out.size)⟩
open Go.RowKit
set_option maxRecDepth 100000 in
set_option maxHeartbeats 4000000 in
theorem relation_c (s : Int) (c : Nat) (s' : Int) (c' : Nat) (w : World) (hc : c < U64n) (hc' : c' < U64n) :
 Calls Tryz.prog 101 #[.agg #[.int .i64 s, .int .u64 c], .agg #[.int .i64 s', .int .u64 c']] w fun e w' => e = .returned (.int .i64 (relL s c s' c')) ∧ Below w.heap.size w w' := by
 obtain ⟨hB, hB2, hW, _⟩ := two_box w 42 42 #[.int .i64 s, .int .u64 c] #[.int .i64 s', .int .u64 c']
 have HD1 := Lib.hid (fun w => dominates_c s c s' c' w hc hc')
 have HD2 := Lib.hid (fun w => dominates_c s' c' s c w hc' hc)
 by_cases he : s = s' ∧ c = c'
 · obtain ⟨rfl, rfl⟩ := he
   have hr : relL s c s c = 0 := if_pos ⟨rfl, rfl⟩
   rw [hr]
   clear hr HD1 HD2
   go_enter Tryz.func101, Tryz.ntmps101
   go_wp2_with fail
   go_ret
   exact ⟨rfl, hW⟩
 · have hne : (¬ s = s' ∧ (s == s') = false) ∨ (s = s' ∧ ¬ c = c' ∧ ((c : Int) == (c' : Int)) = false) := by
    by_cases h : s = s'
    · have hcc : ¬ c = c' := fun h2 => he ⟨h, h2⟩
      exact .inr ⟨h, hcc, by simp; omega⟩
    · exact .inl ⟨h, by simpa using h⟩
   have hr : relL s c s' c' = if domL s c s' c' = true then 2 else if domL s' c' s c = true then 3 else 4 := if_neg he
   rw [hr]
   have HB := Lib.hid hB
   have HB2 := Lib.hid hB2
   have HW := Lib.hid hW
   clear hr he hB hB2 hW
   obtain ⟨d1, hd1⟩ : ∃ d, domL s c s' c' = d := ⟨_, rfl⟩
   obtain ⟨d2, hd2⟩ : ∃ d, domL s' c' s c = d := ⟨_, rfl⟩
   rw [hd1] at HD1 ⊢
   rw [hd2] at HD2 ⊢
   clear hd1 hd2
   cases d1
   · cases d2
     all_goals
      rcases hne with ⟨hn1, hn2⟩ | ⟨rfl, hn1, hn2⟩
      all_goals
       go_enter Tryz.func101, Tryz.ntmps101
       go_wp2_with fail
       refine (HD1.out _).mono ?_
       rintro e w2 ⟨rfl, hb2⟩
       obtain ⟨p0, p1⟩ := (HB.out.keep hb2).box2
       obtain ⟨q0, q1⟩ := (HB2.out.keep hb2).box2
       go_wp2_with fail
       refine (HD2.out _).mono ?_
       rintro e w3 ⟨rfl, hb3⟩
       go_wp2_with fail
       go_ret
       exact ⟨rfl, (HW.out.trans (Below.mono (Kp.step (Kp.step Kp.rfl' hb2) hb3) HW.out.size))⟩
   · rcases hne with ⟨hn1, hn2⟩ | ⟨rfl, hn1, hn2⟩
     all_goals
      go_enter Tryz.func101, Tryz.ntmps101
      go_wp2_with fail
      refine (HD1.out _).mono ?_
      rintro e w2 ⟨rfl, hb2⟩
      go_wp2_with fail
      go_ret
      exact ⟨rfl, HW.out.trans (Below.mono (Kp.step Kp.rfl' hb2) HW.out.size)⟩
open Go.RowKit
def domX (a b : Lv) : Bool := domL a.s a.c b.s b.c
def relN (a b : Lv) : Int := relL a.s a.c b.s b.c
def relX (a : Lv) (r : Int) (b : Lv) : Bool := if r = 0 then decide (a = b) else if r = 1 then !decide (a = b) else if r = 2 then domX a b else if r = 3 then domX b a else decide (relN a b = 4)
def num (n : Int) : Lv := ⟨n, 0, by decide⟩
def atX (x : Cx) (k : Int) : Lv := if k = 0 then num x.u else if k = 1 then num x.ro else if k = 2 then num x.ty else if k = 3 then x.lo else x.hi
theorem domX_c (a b : Lv) (w : World) : Calls Tryz.prog 100 #[.agg #[.int .i64 a.s, .int .u64 a.c], .agg #[.int .i64 b.s, .int .u64 b.c]] w fun e w' => e = .returned (.bool (domX a b)) ∧ Below w.heap.size w w' := dominates_c a.s a.c b.s b.c w a.wf b.wf
theorem rdomX_c (a b : Lv) (w : World) : Calls Tryz.prog 112 #[.agg #[.int .i64 a.s, .int .u64 a.c], .agg #[.int .i64 b.s, .int .u64 b.c]] w fun e w' => e = .returned (.bool (domX a b)) ∧ Below w.heap.size w w' := rdominates_c a.s a.c b.s b.c w a.wf b.wf
theorem relN_c (a b : Lv) (w : World) : Calls Tryz.prog 101 #[.agg #[.int .i64 a.s, .int .u64 a.c], .agg #[.int .i64 b.s, .int .u64 b.c]] w fun e w' => e = .returned (.int .i64 (relN a b)) ∧ Below w.heap.size w w' := relation_c a.s a.c b.s b.c w a.wf b.wf
theorem lv_eq {a b : Lv} (h1 : a.s = b.s) (h2 : a.c = b.c) : a = b := by
 obtain ⟨_, _, _⟩ := a
 obtain ⟨_, _, _⟩ := b
 dsimp only at h1 h2
 subst h1 h2
 rfl
theorem lvl_ret {fn : Func} {tmps : Array Value} {t : Tmp} {w : World} {g : Nat} {a : Lv} (h : fn.results = #[.cell t 42]) (ht : tmps.getD t undef = .pointer (some ⟨g, 0, none⟩)) (q : Blk w g 42 #[.int .i64 a.s, .int .u64 a.c]) :
 (results fn tmps).run Tryz.prog w = .ok (.agg #[.int .i64 a.s, .int .u64 a.c]) w := by
 have c0 := q.cell 0
 have c1 := q.cell 1
 have ht' : tmps[t]?.getD undef = .pointer (some ⟨g, 0, none⟩) := by simpa using ht
 simp [results, h, ht', go_sem, c0, c1]
theorem three_new (w : World) (t1 t2 t3 : TypeId) (c1 c2 c3 : Array Value) : Blk (((w.alloc (.cells c1 t1)).alloc (.cells c2 t2)).alloc (.cells c3 t3)) (w.heap.size + 1 + 1) t3 c3 := by
 have h := Blk.new ((w.alloc (.cells c1 t1)).alloc (.cells c2 t2)) t3 c3
 rw [World.size_alloc, World.size_alloc] at h
 exact h
theorem three_below (w : World) (o1 o2 o3 : Obj) : Below w.heap.size w (((w.alloc o1).alloc o2).alloc o3) := (((Below.refl _ _).alloc (Nat.le_refl _) _).alloc (by simp) _).alloc (by simp; omega) _
set_option maxRecDepth 100000 in
theorem rd_user (c : Cx) (w : World) : Calls Tryz.prog 150 #[.agg #[], .agg #[.int .i64 c.u, .int .i64 c.ro, .int .i64 c.ty, .int .i64 c.lo.s, .int .u64 c.lo.c, .int .i64 c.hi.s, .int .u64 c.hi.c]] w fun e w' => e = .returned (.agg #[.int .i64 (num c.u).s, .int .u64 (num c.u).c]) ∧ Below w.heap.size w w' := by
 go_enter Tryz.func150, Tryz.ntmps150
 go_wp2
 exact bodyPost_ret (v := .agg #[.int .i64 (num c.u).s, .int .u64 (num c.u).c]) (lvl_ret Tryz.results150 rfl (three_new _ _ _ _ _ _ _)) rfl ⟨rfl, three_below _ _ _ _⟩
set_option maxRecDepth 100000 in
theorem rd_role (c : Cx) (w : World) : Calls Tryz.prog 151 #[.agg #[], .agg #[.int .i64 c.u, .int .i64 c.ro, .int .i64 c.ty, .int .i64 c.lo.s, .int .u64 c.lo.c, .int .i64 c.hi.s, .int .u64 c.hi.c]] w fun e w' => e = .returned (.agg #[.int .i64 (num c.ro).s, .int .u64 (num c.ro).c]) ∧ Below w.heap.size w w' := by
 go_enter Tryz.func151, Tryz.ntmps151
 go_wp2
 exact bodyPost_ret (v := .agg #[.int .i64 (num c.ro).s, .int .u64 (num c.ro).c]) (lvl_ret Tryz.results151 rfl (three_new _ _ _ _ _ _ _)) rfl ⟨rfl, three_below _ _ _ _⟩
set_option maxRecDepth 100000 in
theorem rd_typeOf (c : Cx) (w : World) : Calls Tryz.prog 152 #[.agg #[], .agg #[.int .i64 c.u, .int .i64 c.ro, .int .i64 c.ty, .int .i64 c.lo.s, .int .u64 c.lo.c, .int .i64 c.hi.s, .int .u64 c.hi.c]] w fun e w' => e = .returned (.agg #[.int .i64 (num c.ty).s, .int .u64 (num c.ty).c]) ∧ Below w.heap.size w w' := by
 go_enter Tryz.func152, Tryz.ntmps152
 go_wp2
 exact bodyPost_ret (v := .agg #[.int .i64 (num c.ty).s, .int .u64 (num c.ty).c]) (lvl_ret Tryz.results152 rfl (three_new _ _ _ _ _ _ _)) rfl ⟨rfl, three_below _ _ _ _⟩
set_option maxRecDepth 100000 in
theorem rd_lowLevel (c : Cx) (w : World) : Calls Tryz.prog 153 #[.agg #[], .agg #[.int .i64 c.u, .int .i64 c.ro, .int .i64 c.ty, .int .i64 c.lo.s, .int .u64 c.lo.c, .int .i64 c.hi.s, .int .u64 c.hi.c]] w fun e w' => e = .returned (.agg #[.int .i64 (c.lo).s, .int .u64 (c.lo).c]) ∧ Below w.heap.size w w' := by
 go_enter Tryz.func153, Tryz.ntmps153
 go_wp2
 exact bodyPost_ret (v := .agg #[.int .i64 (c.lo).s, .int .u64 (c.lo).c]) (lvl_ret Tryz.results153 rfl (three_new _ _ _ _ _ _ _)) rfl ⟨rfl, three_below _ _ _ _⟩
set_option maxRecDepth 100000 in
theorem rd_highLevel (c : Cx) (w : World) : Calls Tryz.prog 154 #[.agg #[], .agg #[.int .i64 c.u, .int .i64 c.ro, .int .i64 c.ty, .int .i64 c.lo.s, .int .u64 c.lo.c, .int .i64 c.hi.s, .int .u64 c.hi.c]] w fun e w' => e = .returned (.agg #[.int .i64 (c.hi).s, .int .u64 (c.hi).c]) ∧ Below w.heap.size w w' := by
 go_enter Tryz.func154, Tryz.ntmps154
 go_wp2
 exact bodyPost_ret (v := .agg #[.int .i64 (c.hi).s, .int .u64 (c.hi).c]) (lvl_ret Tryz.results154 rfl (three_new _ _ _ _ _ _ _)) rfl ⟨rfl, three_below _ _ _ _⟩
set_option maxRecDepth 100000 in
theorem attributeOf_0 (n : Int) (h : n.tmod 5 = 0) (w : World) : Calls Tryz.prog 99 #[.int .i64 n] w fun e w' => e = .returned (.iface 180 (.agg #[])) ∧ Below w.heap.size w w' := by
 go_enter Tryz.func99, Tryz.ntmps99
 go_wp2
 go_ret
 exact ⟨rfl, Below.refl _ _⟩
set_option maxRecDepth 100000 in
theorem attributeOf_1 (n : Int) (h : n.tmod 5 = 1) (w : World) : Calls Tryz.prog 99 #[.int .i64 n] w fun e w' => e = .returned (.iface 181 (.agg #[])) ∧ Below w.heap.size w w' := by
 go_enter Tryz.func99, Tryz.ntmps99
 go_wp2
 go_ret
 exact ⟨rfl, Below.refl _ _⟩
set_option maxRecDepth 100000 in
theorem attributeOf_2 (n : Int) (h : n.tmod 5 = 2) (w : World) : Calls Tryz.prog 99 #[.int .i64 n] w fun e w' => e = .returned (.iface 182 (.agg #[])) ∧ Below w.heap.size w w' := by
 go_enter Tryz.func99, Tryz.ntmps99
 go_wp2
 go_ret
 exact ⟨rfl, Below.refl _ _⟩
set_option maxRecDepth 100000 in
theorem attributeOf_3 (n : Int) (h : n.tmod 5 = 3) (w : World) : Calls Tryz.prog 99 #[.int .i64 n] w fun e w' => e = .returned (.iface 183 (.agg #[])) ∧ Below w.heap.size w w' := by
 go_enter Tryz.func99, Tryz.ntmps99
 go_wp2
 go_ret
 exact ⟨rfl, Below.refl _ _⟩
set_option maxRecDepth 100000 in
theorem attributeOf_4 (n : Int) (h : n.tmod 5 = 4) (w : World) : Calls Tryz.prog 99 #[.int .i64 n] w fun e w' => e = .returned (.iface 184 (.agg #[])) ∧ Below w.heap.size w w' := by
 go_enter Tryz.func99, Tryz.ntmps99
 go_wp2
 go_ret
 exact ⟨rfl, Below.refl _ _⟩
end Go.Proofs.YtbhoofihnmmmfabGreat
