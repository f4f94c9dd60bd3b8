/- Part of the proof: Rtk Rbs. No conditions. -/
import Derived.Test.YtbhoofihnmmmfabGreatYaa
import Derived.Test.YtbhoofihnmmmfabGreatYar
import Derived.WalkKit
import Derived.WalkSpells
import Derived.WalkLawsBesides
import Derived.Lib.Hide
import Derived.WalkSmall
import Derived.RegionTactic
import Derived.BigRegion
import Derived.LoopN
import Derived.LoopTactic
import Derived.Laws.StructEq
import Derived.Laws.Cover2
import Derived.OwnWalk
namespace Go.Proofs.YtbhoofihnmmmfabGreat
open Go.RowKit
def chLet (c : Int) : Bool := decide ((97 ≤ c ∧ c ≤ 122) ∨ (65 ≤ c ∧ c ≤ 90) ∨ c = 95)
def chDig (c : Int) : Bool := decide (48 ≤ c ∧ c ≤ 57)
def chPrt (c : Int) : Bool := decide (32 ≤ c ∧ c ≤ 126)
set_option maxHeartbeats 1000000 in
theorem rLetter_c (c : Int) (w : World) : Calls Tryz.prog 118 #[.int .u8 c] w fun e w' => e = .returned (.bool (chLet c)) ∧ w' = w := by
 by_cases h0 : 97 ≤ c <;> by_cases h1 : c ≤ 122 <;> by_cases h2 : 65 ≤ c <;> by_cases h3 : c ≤ 90 <;> by_cases h4 : c = 95
 all_goals
  first
   | (exfalso; omega)
   | (have e : chLet c = true := decide_eq_true (by omega)
      rw [e]
      clear e
      try (have b4 : (c == 95) = true := by simpa using h4)
      try (have b4 : (c == 95) = false := by simpa using h4)
      clear h4
      go_enter Tryz.func118, Tryz.ntmps118
      go_wp2
      go_ret
      exact ⟨rfl, rfl⟩)
   | (have e : chLet c = false := decide_eq_false (by omega)
      rw [e]
      clear e
      try (have b4 : (c == 95) = true := by simpa using h4)
      try (have b4 : (c == 95) = false := by simpa using h4)
      clear h4
      go_enter Tryz.func118, Tryz.ntmps118
      go_wp2
      go_ret
      exact ⟨rfl, rfl⟩)
set_option maxHeartbeats 1000000 in
theorem rDigit_c (c : Int) (w : World) : Calls Tryz.prog 119 #[.int .u8 c] w fun e w' => e = .returned (.bool (chDig c)) ∧ w' = w := by
 by_cases h0 : 48 ≤ c <;> by_cases h1 : c ≤ 57
 all_goals
  first
   | (exfalso; omega)
   | (have e : chDig c = true := decide_eq_true (by omega)
      rw [e]
      clear e
      go_enter Tryz.func119, Tryz.ntmps119
      go_wp2
      go_ret
      exact ⟨rfl, rfl⟩)
   | (have e : chDig c = false := decide_eq_false (by omega)
      rw [e]
      clear e
      go_enter Tryz.func119, Tryz.ntmps119
      go_wp2
      go_ret
      exact ⟨rfl, rfl⟩)
def chI (s : ByteArray) (i : Nat) : Int := if h : i < s.size then (s[i].toNat : Int) else -1
theorem chI_lt {s : ByteArray} {i : Nat} (h : i < s.size) : chI s i = (s[i].toNat : Int) := dif_pos h
theorem chI_ge {s : ByteArray} {i : Nat} (h : ¬ i < s.size) : chI s i = -1 := dif_neg h
def runF (p : Int → Bool) (s : ByteArray) : Nat → Nat → Nat
 | 0, i => i
 | n + 1, i => if p (chI s i) = true then runF p s n (i + 1) else i
def run (p : Int → Bool) (s : ByteArray) (i : Nat) : Nat := runF p s (s.size - i) i
theorem run_go {p : Int → Bool} {s : ByteArray} {i : Nat} (h : i < s.size) (hp : p (chI s i) = true) : run p s i = run p s (i + 1) := by
 unfold run
 rw [show s.size - i = (s.size - (i + 1)) + 1 by omega, runF, if_pos hp]
theorem run_stop {p : Int → Bool} {s : ByteArray} {i : Nat} (hp : p (chI s i) = false) : run p s i = i := by
 unfold run
 cases hn : s.size - i with
 | zero => rfl
 | succ n => rw [runF, if_neg (by rw [hp]; exact Bool.false_ne_true)]
def wordC (c : Int) : Bool := chLet c || chDig c
def quoC (c : Int) : Bool := chPrt c && !decide (c = 34)
def kws : List (List UInt8) := [[109, 111, 100, 117, 108, 101], [99, 108, 97, 115, 115], [116, 121, 112, 101], [97, 108, 105, 97, 115], [116, 121, 112, 101, 97, 116, 116, 114, 105, 98, 117, 116, 101], [97, 116, 116, 114, 105, 98, 117, 116, 101], [114, 111, 108, 101], [116, 121, 112, 101, 115], [114, 111, 108, 101, 97, 108, 108, 111, 119], [114, 111, 108, 101, 95, 116, 114, 97, 110, 115, 105, 116, 105, 111, 110], [117, 115, 101, 114], [114, 111, 108, 101, 115], [108, 101, 118, 101, 108], [114, 97, 110, 103, 101], [98, 111, 111, 108], [116, 114, 117, 101], [102, 97, 108, 115, 101], [115, 101, 110, 115, 105, 116, 105, 118, 105, 116, 121], [99, 97, 116, 101, 103, 111, 114, 121], [97, 108, 108, 111, 119], [97, 117, 100, 105, 116, 97, 108, 108, 111, 119], [100, 111, 110, 116, 97, 117, 100, 105, 116], [110, 101, 118, 101, 114, 97, 108, 108, 111, 119], [116, 121, 112, 101, 95, 116, 114, 97, 110, 115, 105, 116, 105, 111, 110], [116, 121, 112, 101, 95, 99, 104, 97, 110, 103, 101], [116, 121, 112, 101, 95, 109, 101, 109, 98, 101, 114], [114, 97, 110, 103, 101, 95, 116, 114, 97, 110, 115, 105, 116, 105, 111, 110], [99, 111, 110, 115, 116, 114, 97, 105, 110], [118, 97, 108, 105, 100, 97, 116, 101, 116, 114, 97, 110, 115], [105, 102], [101, 108, 115, 101], [111, 112, 116, 105, 111, 110, 97, 108], [114, 101, 113, 117, 105, 114, 101], [115, 105, 100], [102, 105, 108, 101, 99, 111, 110], [112, 101, 114, 109, 105, 115, 115, 105, 118, 101], [97, 115, 115, 101, 114, 116], [115, 101, 108, 102], [105, 110]]
def isKw (s : ByteArray) : Bool := kws.contains s.toList
def segF (t : ByteArray) : Nat → Nat → Nat → List (List UInt8)
 | 0, _, _ => []
 | n + 1, i, from_ => if chI t i = 32 then (t.extract from_ i).toList :: segF t n (i + 1) (i + 1) else segF t n (i + 1) from_
def isIn (s : ByteArray) (l : List (List UInt8)) : Bool := !(s.toList == []) && l.contains s.toList
set_option maxRecDepth 100000 in
set_option maxHeartbeats 2000000 in
theorem kwin_c (s t : ByteArray) (w : World) (ht : t.size ≤ 1000000) :
 Calls Tryz.prog 90 #[.string s, .string t] w fun e w' => e = .returned (.bool (isIn s (segF t t.size 0 0))) ∧ w' = w := by
 obtain ⟨R, hR⟩ : ∃ r, isIn s (segF t t.size 0 0) = r := ⟨_, rfl⟩
 have HR := Lib.hid hR
 clear hR
 rw [HR.out]
 go_enter Tryz.func90, Tryz.ntmps90
 go_wp2_with fail
 go_loopw [5, 6] (fun vf vi wr => ∃ i f : Nat, f ≤ i ∧ i ≤ t.size ∧ vf = .int .i64 f ∧ vi = .int .i64 i ∧ isIn s (segF t (t.size - i) i f) = R ∧ wr = w)
  (fun _ vi _ => t.size - (intOf vi).toNat)
 case atStart => exact ⟨0, 0, Nat.le_refl _, Nat.zero_le _, rfl, rfl, HR.out, rfl⟩
 case round =>
  obtain ⟨i, f, hf, hi, rfl, rfl, hr, rfl⟩ := hrel
  by_cases hlt : i < t.size
  · have hl : (i : Int) < (t.size : Int) := by omega
    have hf' : (f : Int) ≤ (i : Int) := by omega
    have hi' : (i : Int) ≤ (t.size : Int) := by omega
    rw [show t.size - i = (t.size - (i + 1)) + 1 by omega, segF, chI_lt hlt] at hr
    by_cases hb : (t[i].toNat : Int) = 32
    · rw [if_pos hb] at hr
      cases hm : ((t.extract f i).toList == s.toList)
      · have hr' : isIn s (segF t (t.size - (i + 1)) (i + 1) (i + 1)) = R := by
         rw [← hr]
         have hm2 : ¬ s.toList = (t.extract f i).toList := fun e => by rw [e] at hm; simp at hm
         simp [isIn, hm2]
        have HQ := Lib.hid hr'
        clear hr hr'
        go_wp2
        exact ⟨⟨i + 1, i + 1, Nat.le_refl _, hlt, by simp, by simp, HQ.out, trivial⟩, by simp [intOf]; omega⟩
      · cases he : (s.toList == [])
        · have hR1 : R = true := by
           rw [← hr]
           have hm2 : s.toList = (t.extract f i).toList := (by simpa using hm : (t.extract f i).toList = s.toList).symm
           have he2 : ¬ s.toList = [] := by simpa using he
           simp [isIn, hm2]
           rw [← hm2]; simpa using he2
          subst hR1
          go_wp2
          go_ret
          exact ⟨rfl, rfl⟩
        · have hr' : isIn s (segF t (t.size - (i + 1)) (i + 1) (i + 1)) = R := by
           rw [← hr]
           have he2 : s.toList = [] := by simpa using he
           simp [isIn, he2]
          have HQ := Lib.hid hr'
          clear hr hr'
          go_wp2
          exact ⟨⟨i + 1, i + 1, Nat.le_refl _, hlt, by simp, by simp, HQ.out, trivial⟩, by simp [intOf]; omega⟩
    · rw [if_neg hb] at hr
      have HQ := Lib.hid hr
      have hb' : ((t[i].toNat : Int) == 32) = false := by simpa using hb
      clear hr
      go_wp2
      exact ⟨⟨i + 1, f, by omega, hlt, by simp, by simp, HQ.out, trivial⟩, by simp [intOf]; omega⟩
  · obtain rfl : i = t.size := by omega
    have hR0 : R = false := by rw [← hr, Nat.sub_self]; simp [segF, isIn]
    subst hR0
    go_wp2
    go_ret
    exact ⟨rfl, rfl⟩
def kwText : ByteArray := { data := #[109, 111, 100, 117, 108, 101, 32, 99, 108, 97, 115, 115, 32, 116, 121, 112, 101, 32, 97, 108, 105, 97, 115, 32, 116, 121, 112, 101, 97, 116, 116, 114, 105, 98, 117, 116, 101, 32, 97, 116, 116, 114, 105, 98, 117, 116, 101, 32, 114, 111, 108, 101, 32, 116, 121, 112, 101, 115, 32, 114, 111, 108, 101, 97, 108, 108, 111, 119, 32, 114, 111, 108, 101, 95, 116, 114, 97, 110, 115, 105, 116, 105, 111, 110, 32, 117, 115, 101, 114, 32, 114, 111, 108, 101, 115, 32, 108, 101, 118, 101, 108, 32, 114, 97, 110, 103, 101, 32, 98, 111, 111, 108, 32, 116, 114, 117, 101, 32, 102, 97, 108, 115, 101, 32, 115, 101, 110, 115, 105, 116, 105, 118, 105, 116, 121, 32, 99, 97, 116, 101, 103, 111, 114, 121, 32, 97, 108, 108, 111, 119, 32, 97, 117, 100, 105, 116, 97, 108, 108, 111, 119, 32, 100, 111, 110, 116, 97, 117, 100, 105, 116, 32, 110, 101, 118, 101, 114, 97, 108, 108, 111, 119, 32, 116, 121, 112, 101, 95, 116, 114, 97, 110, 115, 105, 116, 105, 111, 110, 32, 116, 121, 112, 101, 95, 99, 104, 97, 110, 103, 101, 32, 116, 121, 112, 101, 95, 109, 101, 109, 98, 101, 114, 32, 114, 97, 110, 103, 101, 95, 116, 114, 97, 110, 115, 105, 116, 105, 111, 110, 32, 99, 111, 110, 115, 116, 114, 97, 105, 110, 32, 118, 97, 108, 105, 100, 97, 116, 101, 116, 114, 97, 110, 115, 32, 105, 102, 32, 101, 108, 115, 101, 32, 111, 112, 116, 105, 111, 110, 97, 108, 32, 114, 101, 113, 117, 105, 114, 101, 32, 115, 105, 100, 32, 102, 105, 108, 101, 99, 111, 110, 32, 112, 101, 114, 109, 105, 115, 115, 105, 118, 101, 32, 97, 115, 115, 101, 114, 116, 32, 115, 101, 108, 102, 32, 105, 110, 32] }
set_option maxRecDepth 100000 in
theorem kwText_seg : segF kwText kwText.size 0 0 = kws := by kernel_rfl
theorem isKw_seg (s : ByteArray) : isIn s (segF kwText kwText.size 0 0) = isKw s := by
 rw [kwText_seg]
 unfold isIn isKw
 by_cases h : s.toList = []
 · rw [h]; decide
 · simp [h]
set_option maxRecDepth 100000 in
theorem rkw_c (s : ByteArray) (w : World) :
 Calls Tryz.prog 124 #[.string s] w fun e w' => e = .returned (.bool (isKw s)) ∧ w' = w := by
 go_enter Tryz.func124, Tryz.ntmps124
 go_wp2_with (go_at_call 90; refine (kwin_c s kwText _ (by decide)).mono ?_; rintro e w' ⟨rfl, rfl⟩; rw [isKw_seg])
 go_ret
 exact ⟨rfl, rfl⟩
theorem run_spec {p : Int → Bool} {s : ByteArray} : ∀ n i, s.size - i = n → i ≤ s.size → (∀ k, i ≤ k → k < run p s i → p (chI s k) = true) ∧ (run p s i < s.size → p (chI s (run p s i)) = false)
 | 0, i, hn, hi => by
   have e : run p s i = i := by unfold run; rw [hn]; rfl
   rw [e]
   exact ⟨fun k h1 h2 => by omega, fun h => by omega⟩
 | n + 1, i, hn, hi => by
   cases hp : p (chI s i) with
   | true =>
     rw [run_go (by omega) hp]
     have ih := run_spec (p := p) (s := s) n (i + 1) (by omega) (by omega)
     refine ⟨fun k h1 h2 => ?_, ih.2⟩
     rcases Nat.eq_or_lt_of_le h1 with rfl | h1
     · exact hp
     · exact ih.1 k h1 h2
   | false =>
     rw [run_stop hp]
     exact ⟨fun k h1 h2 => by omega, fun _ => hp⟩
theorem run_ok {p : Int → Bool} {s : ByteArray} {i k : Nat} (hi : i ≤ s.size) (h1 : i ≤ k) (h2 : k < run p s i) : p (chI s k) = true := (run_spec _ i rfl hi).1 k h1 h2
def nameB (t : ByteArray) : Bool := decide (chLet (chI t 0) = true ∧ run wordC t 0 = t.size ∧ t.size ≤ 32)
def numB (t : ByteArray) : Bool := decide (chDig (chI t 0) = true ∧ run chDig t 0 = t.size ∧ t.size ≤ 9 ∧ (t.size = 1 ∨ chI t 0 ≠ 48))
def quoB (t : ByteArray) : Bool := decide (run quoC t 0 = t.size ∧ t.size ≤ 256)
def markL : List (List UInt8) := [[123], [125], [40], [41], [59], [58], [44], [46], [45], [126], [42], [33], [61, 61], [33, 61], [38, 38], [124, 124], [94]]
def markB (t : ByteArray) : Bool := markL.contains t.toList
/-- the reference's Check -/
def refB (kind : Int) (t : ByteArray) : Bool := if kind = 0 then decide (t.size = 0) else if kind = 1 then nameB t else if kind = 2 then numB t else if kind = 3 then quoB t else if kind = 4 then markB t else false
def identB (t : ByteArray) : Bool := nameB t && !isKw t
theorem run_end (p : Int → Bool) (s : ByteArray) : run p s s.size = s.size := by unfold run; rw [Nat.sub_self]; rfl
set_option maxRecDepth 100000 in
set_option maxHeartbeats 2000000 in
theorem rName_c (s : ByteArray) (w : World) (hm : s.size ≤ 9223372036854775807) :
 Calls Tryz.prog 87 #[.string s] w fun e w' => e = .returned (.bool (nameB s)) ∧ w' = w := by
 obtain ⟨R, hR⟩ : ∃ r, nameB s = r := ⟨_, rfl⟩
 have HR := Lib.hid hR
 clear hR
 rw [HR.out]
 go_enter Tryz.func87, Tryz.ntmps87
 go_wp2_with fail
 go_loop [3] (fun vi => ∃ i : Nat, i ≤ s.size ∧ vi = .int .i64 i ∧ Hid (0 < i → chLet (chI s 0) = true) ∧ Hid (run wordC s i = run wordC s 0))
  (fun vi => s.size - (intOf vi).toNat)
 case atStart => exact ⟨0, Nat.zero_le _, rfl, Lib.hid (fun h => absurd h (by omega)), Lib.hid rfl⟩
 case round =>
  obtain ⟨i, hi, rfl, h0, hr⟩ := hrel
  by_cases hlt : i < s.size
  · have hl : (i : Int) < (s.size : Int) := by omega
    have hc := chI_lt hlt
    cases hL : chLet (s[i].toNat : Int)
    · by_cases hi0 : i = 0
      · subst hi0
        obtain rfl : R = false := by
         rw [← HR.out]; unfold nameB
         rw [hc, hL]; simp
        have HL := Lib.hid hL
        clear hL hc
        go_wp2_with (go_at_call 118; refine (rLetter_c _ _).mono ?_; rintro e w2 ⟨rfl, rfl⟩; rw [HL.out])
        go_ret
        exact ⟨rfl, rfl⟩
      · have hi0' : ((i : Int) == 0) = false := by simp; omega
        cases hD : chDig (s[i].toNat : Int)
        · obtain rfl : R = false := by
           rw [← HR.out]; unfold nameB
           rw [← hr.out, run_stop (by rw [hc]; unfold wordC; rw [hL, hD]; rfl)]
           simp; omega
          have HL := Lib.hid hL
          have HD := Lib.hid hD
          clear hL hc hD hi0
          go_wp2_with (first
           | (go_at_call 118; refine (rLetter_c _ _).mono ?_; rintro e w2 ⟨rfl, rfl⟩; rw [HL.out])
           | (go_at_call 119; refine (rDigit_c _ _).mono ?_; rintro e w2 ⟨rfl, rfl⟩; rw [HD.out]))
          go_ret
          exact ⟨rfl, rfl⟩
        · have HN : Hid (run wordC s (i + 1) = run wordC s 0) := Lib.hid (by rw [← hr.out, run_go hlt (by rw [hc]; unfold wordC; rw [hD, Bool.or_true])])
          have HL := Lib.hid hL
          have HD := Lib.hid hD
          have H0 : Hid (0 < i + 1 → chLet (chI s 0) = true) := Lib.hid (fun _ => h0.out (by omega))
          clear hL hc hD hi0
          go_wp2_with (first
           | (go_at_call 118; refine (rLetter_c _ _).mono ?_; rintro e w2 ⟨rfl, rfl⟩; rw [HL.out])
           | (go_at_call 119; refine (rDigit_c _ _).mono ?_; rintro e w2 ⟨rfl, rfl⟩; rw [HD.out]))
          exact ⟨⟨i + 1, hlt, by simp, H0, HN⟩, by simp [intOf]; omega⟩
    · have HN : Hid (run wordC s (i + 1) = run wordC s 0) := Lib.hid (by rw [← hr.out, run_go hlt (by rw [hc]; unfold wordC; rw [hL, Bool.true_or])])
      have HL := Lib.hid hL
      have H0 : Hid (0 < i + 1 → chLet (chI s 0) = true) := Lib.hid (fun _ => by
       by_cases hi0 : i = 0
       · subst hi0; rw [hc, hL]
       · exact h0.out (by omega))
      clear hL hc
      go_wp2_with (go_at_call 118; refine (rLetter_c _ _).mono ?_; rintro e w2 ⟨rfl, rfl⟩; rw [HL.out])
      exact ⟨⟨i + 1, hlt, by simp, H0, HN⟩, by simp [intOf]; omega⟩
  · obtain rfl : i = s.size := by omega
    by_cases hz : s.size = 0
    · obtain rfl : R = false := by
       rw [← HR.out]; unfold nameB
       rw [chI_ge (by omega)]; rfl
      have hz' : ¬ (1 : Int) ≤ (s.size : Int) := by omega
      go_wp2
      go_ret
      exact ⟨rfl, rfl⟩
    · have hz' : (1 : Int) ≤ (s.size : Int) := by omega
      obtain rfl : R = decide ((s.size : Int) ≤ 32) := by
       rw [← HR.out]; unfold nameB
       rw [h0.out (by omega), ← hr.out, run_end, Bool.eq_iff_iff]
       simp; omega
      go_wp2
      go_ret
      exact ⟨rfl, rfl⟩
set_option maxRecDepth 100000 in
set_option maxHeartbeats 2000000 in
theorem rNum_c (s : ByteArray) (w : World) (hm : s.size ≤ 9223372036854775807) :
 Calls Tryz.prog 88 #[.string s] w fun e w' => e = .returned (.bool (numB s)) ∧ w' = w := by
 obtain ⟨R, hR⟩ : ∃ r, numB s = r := ⟨_, rfl⟩
 have HR := Lib.hid hR
 clear hR
 rw [HR.out]
 go_enter Tryz.func88, Tryz.ntmps88
 go_wp2_with fail
 go_loop [3] (fun vi => ∃ i : Nat, i ≤ s.size ∧ vi = .int .i64 i ∧ Hid (run chDig s i = run chDig s 0))
  (fun vi => s.size - (intOf vi).toNat)
 case atStart => exact ⟨0, Nat.zero_le _, rfl, Lib.hid rfl⟩
 case round =>
  obtain ⟨i, hi, rfl, hr⟩ := hrel
  by_cases hlt : i < s.size
  · have hl : (i : Int) < (s.size : Int) := by omega
    have hc := chI_lt hlt
    cases hD : chDig (s[i].toNat : Int)
    · obtain rfl : R = false := by
       rw [← HR.out]; unfold numB
       rw [← hr.out, run_stop (by rw [hc, hD])]
       simp; omega
      have HD := Lib.hid hD
      clear hc hD
      go_wp2_with (go_at_call 119; refine (rDigit_c _ _).mono ?_; rintro e w2 ⟨rfl, rfl⟩; rw [HD.out])
      go_ret
      exact ⟨rfl, rfl⟩
    · have HN : Hid (run chDig s (i + 1) = run chDig s 0) := Lib.hid (by rw [← hr.out, run_go hlt (by rw [hc, hD])])
      have HD := Lib.hid hD
      clear hc hD
      go_wp2_with (go_at_call 119; refine (rDigit_c _ _).mono ?_; rintro e w2 ⟨rfl, rfl⟩; rw [HD.out])
      exact ⟨⟨i + 1, hlt, by simp, HN⟩, by simp [intOf]; omega⟩
  · obtain rfl : i = s.size := by omega
    by_cases hz : s.size = 0
    · obtain rfl : R = false := by
       rw [← HR.out]; unfold numB
       rw [chI_ge (by omega)]; rfl
      have hz' : ¬ (1 : Int) ≤ (s.size : Int) := by omega
      go_wp2
      go_ret
      exact ⟨rfl, rfl⟩
    · have hz' : (1 : Int) ≤ (s.size : Int) := by omega
      have h0 : 0 < s.size := by omega
      have hd : chDig (chI s 0) = true := run_ok (p := chDig) (Nat.zero_le _) (Nat.le_refl 0) (by rw [← hr.out, run_end]; omega)
      by_cases h9 : s.size ≤ 9
      · have h9' : (s.size : Int) ≤ 9 := by omega
        by_cases h1 : s.size = 1
        · obtain rfl : R = true := by
           rw [← HR.out]; unfold numB
           rw [hd, ← hr.out, run_end]
           simp; omega
          have h1' : ((s.size : Int) == 1) = true := by simp; omega
          clear hz h0 h9 h1
          go_wp2
          go_ret
          exact ⟨rfl, rfl⟩
        · have h1' : ((s.size : Int) == 1) = false := by simp; omega
          obtain rfl : R = !((s[0].toNat : Int) == 48) := by
           rw [← HR.out]; unfold numB
           rw [hd, ← hr.out, run_end, chI_lt h0, Bool.eq_iff_iff]
           simp; omega
          clear hz h9 h1
          go_wp2
          go_ret
          exact ⟨rfl, rfl⟩
      · have h9' : ¬ (s.size : Int) ≤ 9 := by omega
        obtain rfl : R = false := by
         rw [← HR.out]; unfold numB
         simp; omega
        go_wp2
        go_ret
        exact ⟨rfl, rfl⟩
set_option maxRecDepth 100000 in
set_option maxHeartbeats 2000000 in
theorem rQuo_c (s : ByteArray) (w : World) (hm : s.size ≤ 9223372036854775807) :
 Calls Tryz.prog 89 #[.string s] w fun e w' => e = .returned (.bool (quoB s)) ∧ w' = w := by
 obtain ⟨R, hR⟩ : ∃ r, quoB s = r := ⟨_, rfl⟩
 have HR := Lib.hid hR
 clear hR
 rw [HR.out]
 go_enter Tryz.func89, Tryz.ntmps89
 go_wp2_with fail
 go_loop [3] (fun vi => ∃ i : Nat, i ≤ s.size ∧ vi = .int .i64 i ∧ Hid (run quoC s i = run quoC s 0))
  (fun vi => s.size - (intOf vi).toNat)
 case atStart => exact ⟨0, Nat.zero_le _, rfl, Lib.hid rfl⟩
 case round =>
  obtain ⟨i, hi, rfl, hr⟩ := hrel
  by_cases hlt : i < s.size
  · have hl : (i : Int) < (s.size : Int) := by omega
    have hc := chI_lt hlt
    by_cases h1 : (s[i].toNat : Int) < 32
    · obtain rfl : R = false := by
       rw [← HR.out]; unfold quoB
       rw [← hr.out, run_stop (by rw [hc]; unfold quoC chPrt; rw [decide_eq_false (by omega)]; rfl)]
       simp; omega
      clear hc
      go_wp2
      go_ret
      exact ⟨rfl, rfl⟩
    · by_cases h2 : (126 : Int) < (s[i].toNat : Int)
      · obtain rfl : R = false := by
         rw [← HR.out]; unfold quoB
         rw [← hr.out, run_stop (by rw [hc]; unfold quoC chPrt; rw [decide_eq_false (by omega)]; rfl)]
         simp; omega
        clear hc
        go_wp2
        go_ret
        exact ⟨rfl, rfl⟩
      · cases h3 : ((s[i].toNat : Int) == 34)
        · have HN : Hid (run quoC s (i + 1) = run quoC s 0) := Lib.hid (by
           rw [← hr.out, run_go hlt]
           rw [hc]; unfold quoC chPrt
           have : ¬ (s[i].toNat : Int) = 34 := by simpa using h3
           rw [decide_eq_true (by omega), decide_eq_false this]; rfl)
          clear hc
          go_wp2
          exact ⟨⟨i + 1, hlt, by simp, HN⟩, by simp [intOf]; omega⟩
        · obtain rfl : R = false := by
           rw [← HR.out]; unfold quoB
           have : (s[i].toNat : Int) = 34 := by simpa using h3
           rw [← hr.out, run_stop (by rw [hc, this]; rfl)]
           simp; omega
          clear hc
          go_wp2
          go_ret
          exact ⟨rfl, rfl⟩
  · obtain rfl : i = s.size := by omega
    obtain rfl : R = decide ((s.size : Int) ≤ 256) := by
     rw [← HR.out]; unfold quoB
     rw [← hr.out, run_end, Bool.eq_iff_iff]
     simp; omega
    go_wp2
    go_ret
    exact ⟨rfl, rfl⟩
set_option maxRecDepth 100000 in
theorem rIdent_c (s : ByteArray) (w : World) (hm : s.size ≤ 9223372036854775807) :
 Calls Tryz.prog 113 #[.string s] w fun e w' => e = .returned (.bool (identB s)) ∧ w' = w := by
 unfold identB
 cases hB : nameB s
 all_goals
  go_enter Tryz.func113, Tryz.ntmps113
  go_wp2_with (first
   | (go_at_call 87; refine (rName_c _ _ hm).mono ?_; rintro e w2 ⟨rfl, rfl⟩; rw [hB])
   | (go_at_call 124; refine (rkw_c _ _).mono ?_; rintro e w2 ⟨rfl, rfl⟩))
  go_ret
  exact ⟨rfl, rfl⟩
def mkText : ByteArray := ⟨#[123, 32, 125, 32, 40, 32, 41, 32, 59, 32, 58, 32, 44, 32, 46, 32, 45, 32, 126, 32, 42, 32, 33, 32, 61, 61, 32, 33, 61, 32, 38, 38, 32, 124, 124, 32, 94, 32]⟩
set_option maxRecDepth 100000 in
theorem mkText_seg : segF mkText mkText.size 0 0 = markL := by kernel_rfl
theorem isMk_seg (s : ByteArray) : isIn s (segF mkText mkText.size 0 0) = markB s := by
 rw [mkText_seg]
 unfold isIn markB
 by_cases h : s.toList = []
 · rw [h]; decide
 · simp [h]
set_option maxRecDepth 100000 in
set_option maxHeartbeats 2000000 in
theorem rCheck_c (k : Int) (t : ByteArray) (l c : Int) (w : World) (ht : t.size ≤ 9223372036854775807) :
 Calls Tryz.prog 64 #[.agg #[.int .i64 k, .string t, .int .i64 l, .int .i64 c]] w fun e w' => e = .returned (.bool (refB k t)) ∧ Below w.heap.size w w' := by
 have hbl := (Below.refl w.heap.size w).alloc (Nat.le_refl _) (.cells #[.int .i64 k, .string t, .int .i64 l, .int .i64 c] 141)
 by_cases h0 : k = 0
 · subst h0
   have e0 : refB 0 t = t.toList.isEmpty := by
    unfold refB
    rw [if_pos rfl, ByteArray.toList_eq]
    rcases t with ⟨⟨l⟩⟩
    cases l with
    | nil => rfl
    | cons x r => exact decide_eq_false (fun h : r.length + 1 = 0 => by omega)
   rw [e0]
   go_enter Tryz.func64, Tryz.ntmps64
   go_wp2
   go_ret
   exact ⟨rfl, hbl⟩
 by_cases h1 : k = 1
 · subst h1
   have e0 : refB 1 t = nameB t := rfl
   rw [e0]
   go_enter Tryz.func64, Tryz.ntmps64
   go_wp2_with (go_at_call 87; refine (rName_c _ _ ht).mono ?_; rintro e w2 ⟨rfl, rfl⟩)
   go_ret
   exact ⟨rfl, hbl⟩
 by_cases h2 : k = 2
 · subst h2
   have e0 : refB 2 t = numB t := rfl
   rw [e0]
   go_enter Tryz.func64, Tryz.ntmps64
   go_wp2_with (go_at_call 88; refine (rNum_c _ _ ht).mono ?_; rintro e w2 ⟨rfl, rfl⟩)
   go_ret
   exact ⟨rfl, hbl⟩
 by_cases h3 : k = 3
 · subst h3
   have e0 : refB 3 t = quoB t := rfl
   rw [e0]
   go_enter Tryz.func64, Tryz.ntmps64
   go_wp2_with (go_at_call 89; refine (rQuo_c _ _ ht).mono ?_; rintro e w2 ⟨rfl, rfl⟩)
   go_ret
   exact ⟨rfl, hbl⟩
 by_cases h4 : k = 4
 · subst h4
   have e0 : refB 4 t = markB t := rfl
   rw [e0]
   go_enter Tryz.func64, Tryz.ntmps64
   go_wp2_with (go_at_call 90; refine (kwin_c t mkText _ (by decide)).mono ?_; rintro e w2 ⟨rfl, rfl⟩; rw [isMk_seg])
   go_ret
   exact ⟨rfl, hbl⟩
 have e0 : refB k t = false := by unfold refB; rw [if_neg h0, if_neg h1, if_neg h2, if_neg h3, if_neg h4]
 rw [e0]
 have q0 : (k == 0) = false := by simpa using h0
 have q1 : (k == 1) = false := by simpa using h1
 have q2 : (k == 2) = false := by simpa using h2
 have q3 : (k == 3) = false := by simpa using h3
 have q4 : (k == 4) = false := by simpa using h4
 go_enter Tryz.func64, Tryz.ntmps64
 go_wp2
 go_ret
 exact ⟨rfl, hbl⟩
open Go.RowKit
set_option maxHeartbeats 2000000 in
theorem rless_c (x0 x1 x2 x3 n : Int) (w : World) :
 Calls Tryz.prog 84 #[.agg #[.int .u64 x0, .int .u64 x1, .int .u64 x2, .int .u64 x3], .int .i64 n] w fun e w' => e = .returned (.agg #[.int .u64 (lessI n 0 x0), .int .u64 (lessI n 1 x1), .int .u64 (lessI n 2 x2), .int .u64 (lessI n 3 x3)]) ∧ Below w.heap.size w w' := by
 by_cases h : n < 0 ∨ 256 ≤ n
 · rw [lessI_out (q := 0) (by omega), lessI_out (q := 1) (by omega), lessI_out (q := 2) (by omega), lessI_out (q := 3) (by omega)]
   have h' : decide (0 ≤ n) = false ∨ (0 ≤ n ∧ decide (n < 256) = false) := by
    rcases h with h | h
    · exact .inl (decide_eq_false (by omega))
    · exact .inr ⟨by omega, decide_eq_false (by omega)⟩
   clear h
   rcases h' with d0 | ⟨d1, d0⟩
   all_goals
    go_enter Tryz.func84, Tryz.ntmps84
    go_wp2
    exact bodyPost_ret (v := .agg #[.int .u64 x0, .int .u64 x1, .int .u64 x2, .int .u64 x3]) (by simp [results, Tryz.results84, go_sem]) rfl ⟨rfl, ((Below.refl _ _).alloc (Nat.le_refl _) _).alloc (by simp) _⟩
 · have h0 : 0 ≤ n := by omega
   have h1 : n < 256 := by omega
   clear h
   rcases split4 x0 x1 x2 x3 n h0 h1 with ⟨l, u, hq, _⟩ | ⟨l, u, hq, _⟩ | ⟨l, u, hq, _⟩ | ⟨l, u, hq, _⟩
   · rw [lessI_in (q := 0) (by omega) (by omega), lessI_out (q := 1) (by omega), lessI_out (q := 2) (by omega), lessI_out (q := 3) (by omega)]
     go_enter Tryz.func84, Tryz.ntmps84
     go_wp2_with fail
     go_region_with (go_at_call 91; refine (rbit_c _ _ h0 h1).mono ?_; rintro e w' ⟨rfl, rfl⟩)
     all_goals
      go_wp2
      exact bodyPost_ret (v := .agg #[.int .u64 (bits .andNot .u64 x0 (bitI n)), .int .u64 x1, .int .u64 x2, .int .u64 x3]) (by simp [results, Tryz.results84, go_sem]) rfl ⟨rfl, (((Below.refl _ _).alloc (Nat.le_refl _) _).alloc (by simp) _).drew⟩
   · rw [lessI_out (q := 0) (by omega), lessI_in (q := 1) (by omega) (by omega), lessI_out (q := 2) (by omega), lessI_out (q := 3) (by omega)]
     go_enter Tryz.func84, Tryz.ntmps84
     go_wp2_with fail
     go_region_with (go_at_call 91; refine (rbit_c _ _ h0 h1).mono ?_; rintro e w' ⟨rfl, rfl⟩)
     all_goals
      go_wp2
      exact bodyPost_ret (v := .agg #[.int .u64 x0, .int .u64 (bits .andNot .u64 x1 (bitI n)), .int .u64 x2, .int .u64 x3]) (by simp [results, Tryz.results84, go_sem]) rfl ⟨rfl, (((Below.refl _ _).alloc (Nat.le_refl _) _).alloc (by simp) _).drew⟩
   · rw [lessI_out (q := 0) (by omega), lessI_out (q := 1) (by omega), lessI_in (q := 2) (by omega) (by omega), lessI_out (q := 3) (by omega)]
     go_enter Tryz.func84, Tryz.ntmps84
     go_wp2_with fail
     go_region_with (go_at_call 91; refine (rbit_c _ _ h0 h1).mono ?_; rintro e w' ⟨rfl, rfl⟩)
     all_goals
      go_wp2
      exact bodyPost_ret (v := .agg #[.int .u64 x0, .int .u64 x1, .int .u64 (bits .andNot .u64 x2 (bitI n)), .int .u64 x3]) (by simp [results, Tryz.results84, go_sem]) rfl ⟨rfl, (((Below.refl _ _).alloc (Nat.le_refl _) _).alloc (by simp) _).drew⟩
   · rw [lessI_out (q := 0) (by omega), lessI_out (q := 1) (by omega), lessI_out (q := 2) (by omega), lessI_in (q := 3) (by omega) (by omega)]
     go_enter Tryz.func84, Tryz.ntmps84
     go_wp2_with fail
     go_region_with (go_at_call 91; refine (rbit_c _ _ h0 h1).mono ?_; rintro e w' ⟨rfl, rfl⟩)
     all_goals
      go_wp2
      exact bodyPost_ret (v := .agg #[.int .u64 x0, .int .u64 x1, .int .u64 x2, .int .u64 (bits .andNot .u64 x3 (bitI n))]) (by simp [results, Tryz.results84, go_sem]) rfl ⟨rfl, (((Below.refl _ _).alloc (Nat.le_refl _) _).alloc (by simp) _).drew⟩
set_option maxHeartbeats 1000000 in
theorem rminus_c (x0 x1 x2 x3 y0 y1 y2 y3 : Int) (w : World) :
 Calls Tryz.prog 83 #[.agg #[.int .u64 x0, .int .u64 x1, .int .u64 x2, .int .u64 x3], .agg #[.int .u64 y0, .int .u64 y1, .int .u64 y2, .int .u64 y3]] w fun e w' =>
  e = .returned (.agg #[.int .u64 (bits .andNot .u64 x0 y0), .int .u64 (bits .andNot .u64 x1 y1), .int .u64 (bits .andNot .u64 x2 y2), .int .u64 (bits .andNot .u64 x3 y3)]) ∧ Below w.heap.size w w' := by
 go_enter Tryz.func83, Tryz.ntmps83
 go_wp2
 refine wp_loop_rounds 5 ?_
 iterate 4 (rw [rounds_succ]; go_wp2; go_region; go_wp2)
 rw [rounds_succ]
 go_wp2
 exact bodyPost_ret (v := .agg #[.int .u64 (bits .andNot .u64 x0 y0), .int .u64 (bits .andNot .u64 x1 y1), .int .u64 (bits .andNot .u64 x2 y2), .int .u64 (bits .andNot .u64 x3 y3)]) (by simp [results, Tryz.results83, go_sem]) rfl ⟨rfl, ((((((((Below.refl _ _).alloc (Nat.le_refl _) _).alloc (by simp) _).alloc (by simp; omega) _).drew).drew).drew).drew)⟩
set_option maxRecDepth 100000 in
set_option maxHeartbeats 1000000 in
theorem rwithin_c (x0 x1 x2 x3 y0 y1 y2 y3 : Int) (w : World) :
 Calls Tryz.prog 52 #[.agg #[.int .u64 x0, .int .u64 x1, .int .u64 x2, .int .u64 x3], .agg #[.int .u64 y0, .int .u64 y1, .int .u64 y2, .int .u64 y3]] w fun e w' =>
  e = .returned (.bool (same4 (bits .andNot .u64 x0 y0) (bits .andNot .u64 x1 y1) (bits .andNot .u64 x2 y2) (bits .andNot .u64 x3 y3) 0 0 0 0)) ∧ Below w.heap.size w w' := by
 go_enter Tryz.func52, Tryz.ntmps52
 go_wp2_with (go_at_call 83; refine (rminus_c _ _ _ _ _ _ _ _ _).mono ?_; rintro e w' ⟨rfl, hb⟩)
 go_ret
 exact ⟨rfl, (((Below.refl _ _).alloc (Nat.le_refl _) _).alloc (by simp) _).trans (hb.mono (by simp; omega))⟩
set_option maxRecDepth 100000 in
set_option maxHeartbeats 2000000 in
theorem all_c (n : Int) (w : World) (hlo : -9223372036854775808 ≤ n) (hhi : n ≤ 9223372036854775807) :
 Calls Tryz.prog 103 #[.int .i64 n] w fun e w' => e = .returned (.agg #[.int .u64 (ofI (allL n) 0), .int .u64 (ofI (allL n) 1), .int .u64 (ofI (allL n) 2), .int .u64 (ofI (allL n) 3)]) ∧ Below w.heap.size w w' := by
 have hN := allN_le n
 by_cases hn : n ≤ 256
 all_goals
  go_enter Tryz.func103, Tryz.ntmps103
  go_wp2
  go_loopw [7] (fun i wr => ∃ k : Nat, k ≤ allN n ∧ i = .int .i64 k ∧ Quad wr w.heap.size 0 0 0 0 ∧
   Quad wr (w.heap.size + 1) (ofI (below k) 0) (ofI (below k) 1) (ofI (below k) 2) (ofI (below k) 3) ∧ Below w.heap.size w wr)
   (fun i _ => 256 - (intOf i).toNat)
  case atStart => exact ⟨0, Nat.zero_le _, rfl, (Quad.new _ _ _ _ _).alloc _, quad_second w, ((Below.refl _ _).alloc (Nat.le_refl _) _).alloc (by simp) _⟩
  case round =>
   obtain ⟨k, hk, rfl, hz, hs, hb⟩ := hrel
   obtain ⟨c0, c1, c2, c3, _⟩ := hs.facts
   have hsz := hs.lt
   by_cases hlt : k < allN n
   · obtain ⟨l1, l2⟩ := allN_lt hlt
     have E : ∀ q, Hid (ofI (below (k + 1)) q = withI k q (ofI (below k) q)) := fun q => ofI_below k q
     go_wp2_with (go_at_call 122; refine (with_c _ _ _ _ _ _).mono ?_; rintro e w' ⟨rfl, hb'⟩; obtain ⟨d0, d1, d2, d3, f0, f1, f2, f3⟩ := (hs.below hb' hsz).facts)
     go_roundw
     case rel =>
      refine ⟨k + 1, by omega, by go_num, (hz.below hb' hz.lt).far4 (by omega), ?_, below_set4 (hb.trans (hb'.mono hb.size)) (by omega) _ _ _ _⟩
      rw [(E 0).out, (E 1).out, (E 2).out, (E 3).out]
      exact (hs.below hb' hsz).set4 _ _ _ _
     case measure => simp [intOf]; omega
   · obtain ⟨d0, d1, d2, d3, f0, f1, f2, f3⟩ := hz.facts
     obtain rfl : k = allN n := by omega
     have hend : (n ≤ (allN n : Int) ∧ n ≤ 256) ∨ (256 ≤ (allN n : Int) ∧ (allN n : Int) < n) := by unfold allN; omega
     have E : below (allN n) = allL n := rfl
     rw [E] at c0 c1 c2 c3
     clear E
     rcases hend with ⟨l1, l2⟩ | ⟨l1, l2⟩
     · first
       | (exfalso; omega)
       | (go_wp2; exact bodyPost_ret (v := (.agg #[.int .u64 (ofI (allL n) 0), .int .u64 (ofI (allL n) 1), .int .u64 (ofI (allL n) 2), .int .u64 (ofI (allL n) 3)])) (set_ret Tryz.results103 rfl (hz.set4 _ _ _ _)) rfl ⟨rfl, below_set4 hb (Nat.le_refl _) _ _ _ _⟩)
     · first
       | (exfalso; omega)
       | (go_wp2; exact bodyPost_ret (v := (.agg #[.int .u64 (ofI (allL n) 0), .int .u64 (ofI (allL n) 1), .int .u64 (ofI (allL n) 2), .int .u64 (ofI (allL n) 3)])) (set_ret Tryz.results103 rfl (hz.set4 _ _ _ _)) rfl ⟨rfl, below_set4 hb (Nat.le_refl _) _ _ _ _⟩)
set_option maxRecDepth 100000 in
set_option maxHeartbeats 2000000 in
theorem rall_c (n : Int) (w : World) (hlo : -9223372036854775808 ≤ n) (hhi : n ≤ 9223372036854775807) :
 Calls Tryz.prog 51 #[.int .i64 n] w fun e w' => e = .returned (.agg #[.int .u64 (ofI (allL n) 0), .int .u64 (ofI (allL n) 1), .int .u64 (ofI (allL n) 2), .int .u64 (ofI (allL n) 3)]) ∧ Below w.heap.size w w' := by
 have hN := allN_le n
 by_cases hn : n ≤ 256
 all_goals
  go_enter Tryz.func51, Tryz.ntmps51
  go_wp2
  go_loopw [4] (fun i wr => ∃ k : Nat, k ≤ allN n ∧ i = .int .i64 k ∧ Quad wr w.heap.size 0 0 0 0 ∧
   Quad wr (w.heap.size + 1) (ofI (below k) 0) (ofI (below k) 1) (ofI (below k) 2) (ofI (below k) 3) ∧ Below w.heap.size w wr)
   (fun i _ => 256 - (intOf i).toNat)
  case atStart => exact ⟨0, Nat.zero_le _, rfl, (Quad.new _ _ _ _ _).alloc _, quad_second w, ((Below.refl _ _).alloc (Nat.le_refl _) _).alloc (by simp) _⟩
  case round =>
   obtain ⟨k, hk, rfl, hz, hs, hb⟩ := hrel
   obtain ⟨c0, c1, c2, c3, _⟩ := hs.facts
   have hsz := hs.lt
   by_cases hlt : k < allN n
   · obtain ⟨l1, l2⟩ := allN_lt hlt
     have E : ∀ q, Hid (ofI (below (k + 1)) q = withI k q (ofI (below k) q)) := fun q => ofI_below k q
     go_wp2_with (go_at_call 65; refine (rwith_c _ _ _ _ _ _).mono ?_; rintro e w' ⟨rfl, hb'⟩; obtain ⟨d0, d1, d2, d3, f0, f1, f2, f3⟩ := (hs.below hb' hsz).facts)
     go_roundw
     case rel =>
      refine ⟨k + 1, by omega, by go_num, (hz.below hb' hz.lt).far4 (by omega), ?_, below_set4 (hb.trans (hb'.mono hb.size)) (by omega) _ _ _ _⟩
      rw [(E 0).out, (E 1).out, (E 2).out, (E 3).out]
      exact (hs.below hb' hsz).set4 _ _ _ _
     case measure => simp [intOf]; omega
   · obtain ⟨d0, d1, d2, d3, f0, f1, f2, f3⟩ := hz.facts
     obtain rfl : k = allN n := by omega
     have hend : (n ≤ (allN n : Int) ∧ n ≤ 256) ∨ (256 ≤ (allN n : Int) ∧ (allN n : Int) < n) := by unfold allN; omega
     have E : below (allN n) = allL n := rfl
     rw [E] at c0 c1 c2 c3
     clear E
     rcases hend with ⟨l1, l2⟩ | ⟨l1, l2⟩
     · first
       | (exfalso; omega)
       | (go_wp2; exact bodyPost_ret (v := (.agg #[.int .u64 (ofI (allL n) 0), .int .u64 (ofI (allL n) 1), .int .u64 (ofI (allL n) 2), .int .u64 (ofI (allL n) 3)])) (set_ret Tryz.results51 rfl (hz.set4 _ _ _ _)) rfl ⟨rfl, below_set4 hb (Nat.le_refl _) _ _ _ _⟩)
     · first
       | (exfalso; omega)
       | (go_wp2; exact bodyPost_ret (v := (.agg #[.int .u64 (ofI (allL n) 0), .int .u64 (ofI (allL n) 1), .int .u64 (ofI (allL n) 2), .int .u64 (ofI (allL n) 3)])) (set_ret Tryz.results51 rfl (hz.set4 _ _ _ _)) rfl ⟨rfl, below_set4 hb (Nat.le_refl _) _ _ _ _⟩)
end Go.Proofs.YtbhoofihnmmmfabGreat
