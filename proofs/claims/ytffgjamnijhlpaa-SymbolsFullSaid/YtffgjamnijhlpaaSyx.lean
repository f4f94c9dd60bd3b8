/- The law Full: its texts. -/
import Derived.Test.YtffgjamnijhlpaaSyw
import Derived.Laws.IdiomStrings
namespace Go.Proofs.Ytffgjamnijhlpaa
open Go.RowKit Go.Maps Go.Sort
def dg (k : Nat) : UInt8 := UInt8.ofNat (48 + k % 10)
theorem dg_nat (k : Nat) : (dg k).toNat = 48 + k % 10 := by unfold dg; simp; omega
/-- n followed by four digits -/
def txt (n : Nat) : ByteArray := ⟨#[110, dg (n / 1000), dg (n / 100), dg (n / 10), dg n]⟩
theorem txt_size (n : Nat) : (txt n).size = 5 := rfl
theorem txt_inj {n m : Nat} (hn : n ≤ 9999) (hm : m ≤ 9999) (h : txt n = txt m) : n = m := by
  unfold txt at h
  have h' := congrArg (fun b : ByteArray => b.data.toList) h
  simp only [List.cons.injEq] at h'
  obtain ⟨_, h1, h2, h3, h4, _⟩ := h'
  have e1 := congrArg UInt8.toNat h1
  have e2 := congrArg UInt8.toNat h2
  have e3 := congrArg UInt8.toNat h3
  have e4 := congrArg UInt8.toNat h4
  rw [dg_nat, dg_nat] at e1 e2 e3 e4
  omega
theorem txt_ch (n i : Nat) (hi : 0 < i) (hi5 : i < 5) : 48 ≤ chI (txt n) i ∧ chI (txt n) i ≤ 57 := by
  have hs : i < (txt n).size := by rw [txt_size]; exact hi5
  rw [chI_lt hs]
  rcases (by omega : i = 1 ∨ i = 2 ∨ i = 3 ∨ i = 4) with rfl | rfl | rfl | rfl
  · have := dg_nat (n / 1000); show (48 : Int) ≤ ((dg (n / 1000)).toNat : Int) ∧ ((dg (n / 1000)).toNat : Int) ≤ 57; omega
  · have := dg_nat (n / 100); show (48 : Int) ≤ ((dg (n / 100)).toNat : Int) ∧ ((dg (n / 100)).toNat : Int) ≤ 57; omega
  · have := dg_nat (n / 10); show (48 : Int) ≤ ((dg (n / 10)).toNat : Int) ∧ ((dg (n / 10)).toNat : Int) ≤ 57; omega
  · have := dg_nat n; show (48 : Int) ≤ ((dg n).toNat : Int) ∧ ((dg n).toNat : Int) ≤ 57; omega
theorem txt_ident (n : Nat) : identB (txt n) = true := by
  have h0 : chI (txt n) 0 = 110 := by rw [chI_lt (by rw [txt_size]; omega)]; rfl
  have hrun : run wordC (txt n) 0 = 5 := by
    refine run_is (e := 5) (by rw [txt_size]; omega) (fun h => by rw [txt_size] at h; omega) 5 0 rfl (Nat.zero_le _) (fun k _ h5 => ?_)
    rcases Nat.eq_zero_or_pos k with rfl | hk
    · rw [h0]; decide
    · have := txt_ch n k hk h5
      unfold wordC chDig
      simp [this]
  have hn : nameB (txt n) = true := by
    unfold nameB
    rw [h0, hrun, txt_size]
    decide
  have hk : isKw (txt n) = false := by
    unfold isKw
    have hl : (txt n).toList = [110, dg (n / 1000), dg (n / 100), dg (n / 10), dg n] := by
      rw [ByteArray.toList_eq]
      rfl
    rw [hl]
    simp [kws]
  unfold identB
  rw [hn, hk]
  rfl
set_option maxRecDepth 100000 in
set_option maxHeartbeats 2000000 in
theorem text_c (n : Nat) (w : World) (hn : n ≤ 9999) :
    Calls Try.prog 24 #[.int .i64 n] w fun e w' => e = .returned (.string (txt n)) ∧ Below w.heap.size w w' := by
  have h0 : (n : Int) ≤ 9999 := by omega
  have hv : ∀ W, Blk W w.heap.size 5 #[.int .u8 (48 + (n : Int) / 1000 % 10), .int .u8 (48 + (n : Int) / 100 % 10), .int .u8 (48 + (n : Int) / 10 % 10), .int .u8 (48 + (n : Int) % 10)] → (convert 76 9 (.slice (some ⟨w.heap.size, 0, none⟩) 4 4)).run Try.prog W = .ok (.string ⟨#[dg (n / 1000), dg (n / 100), dg (n / 10), dg n]⟩) W := fun W hB => by
    have d1 := dg_nat (n / 1000)
    have d2 := dg_nat (n / 100)
    have d3 := dg_nat (n / 10)
    have d4 := dg_nat n
    refine run_convert_bytes_back W _ _ 5 ⟨w.heap.size, 0, none⟩ 4 [dg (n / 1000), dg (n / 100), dg (n / 10), dg n] Try.underlying76 Try.underlying5 Try.underlying9 ?_
    intro j hj
    rcases (by simpa using hj : j < 4) with hj4
    rcases (by omega : j = 0 ∨ j = 1 ∨ j = 2 ∨ j = 3) with rfl | rfl | rfl | rfl
    · have := hB.cell 0; simpa [Addr.add_lit, d1] using this
    · have := hB.cell 1; simpa [Addr.add_lit, d2] using this
    · have := hB.cell 2; simpa [Addr.add_lit, d3] using this
    · have := hB.cell 3; simpa [Addr.add_lit, d4] using this
  have hc := hv _ (Blk.new w _ _)
  have HT : (⟨#[110]⟩ : ByteArray) ++ ⟨#[dg (n / 1000), dg (n / 100), dg (n / 10), dg n]⟩ = txt n := rfl
  have HT2 := Lib.hid HT
  clear hv HT
  obtain ⟨b, hb⟩ : ∃ b, (⟨#[dg (n / 1000), dg (n / 100), dg (n / 10), dg n]⟩ : ByteArray) = b := ⟨_, rfl⟩
  rw [hb] at hc HT2
  have hbs : b.size = 4 := by rw [← hb]; rfl
  clear hb
  go_enter Try.func24, Try.ntmps24
  go_wp2_with fail
  go_ret
  exact ⟨by rw [← HT2.out]; rfl, (Below.refl _ _).alloc (Nat.le_refl _) _⟩
theorem text_at (x : Int) (n : Nat) (w : World) (hx : x = n) (hn : n ≤ 9999) :
    Calls Try.prog 24 #[.int .i64 x] w fun e w' => e = .returned (.string (txt n)) ∧ Below w.heap.size w w' := by
  subst hx
  exact text_c n w hn
def nmL (j : Nat) : List ByteArray := (List.range j).map (fun k => txt (5000 + k))
def alL (n : Int) (j : Nat) : List (ByteArray × Int) := (List.range j).map (fun k => (txt k, n))
theorem nmL_len (j : Nat) : (nmL j).length = j := by simp [nmL]
theorem alL_len (n : Int) (j : Nat) : (alL n j).length = j := by simp [alL]
theorem nmL_succ (j : Nat) : nmL (j + 1) = nmL j ++ [txt (5000 + j)] := by simp [nmL, List.range_succ]
theorem alL_succ (n : Int) (j : Nat) : alL n (j + 1) = alL n j ++ [(txt j, n)] := by simp [alL, List.range_succ]
theorem nm_has {i m : Nat} (h : i ≤ m) (hm : 5000 + m ≤ 9999) : hasE (numE (nmL i)) (txt (5000 + m)) = false := by
  refine hasE_no fun p hp e => ?_
  have h1 : p.1 ∈ Keys (numE (nmL i)) := List.mem_map.2 ⟨p, hp, rfl⟩
  rw [numE_keys] at h1
  obtain ⟨k, hk, e2⟩ := List.mem_map.1 h1
  have hk' := List.mem_range.1 hk
  have := txt_inj (by omega) hm (e2.trans e)
  omega
theorem al_has {N i : Nat} (n : Int) (hN : N ≤ 60) (hi : i ≤ 4096) : hasE (numE (nmL N) ++ alL n i) (txt i) = false := by
  refine hasE_no fun p hp e => ?_
  rcases List.mem_append.1 hp with hp | hp
  · have h1 : p.1 ∈ Keys (numE (nmL N)) := List.mem_map.2 ⟨p, hp, rfl⟩
    rw [numE_keys] at h1
    obtain ⟨k, hk, e2⟩ := List.mem_map.1 h1
    have hk' := List.mem_range.1 hk
    have := txt_inj (by omega) (by omega) (e2.trans e)
    omega
  · obtain ⟨k, hk, rfl⟩ := List.mem_map.1 hp
    have hk' := List.mem_range.1 hk
    have := txt_inj (by omega) (by omega) e
    omega
def FulI (w : World) (g N i : Nat) (wr : World) : Prop := ∃ F', TabF wr F' g N (nmL (min i N)) (numE (nmL (min i N))) ∧ (∀ k, F' k → w.heap.size ≤ k) ∧ Below w.heap.size w wr
def FulJ (w : World) (g N i : Nat) (n : Int) (wr : World) : Prop := ∃ F', TabF wr F' g N (nmL N) (numE (nmL N) ++ alL n (min i 4096)) ∧ (∀ k, F' k → w.heap.size ≤ k) ∧ Below w.heap.size w wr
section
variable {w wr w5 w6 : World} {F' : Nat → Prop} {g N i : Nat} {n : Int}
theorem FulI.step (hF : ∀ k, F' k → w.heap.size ≤ k) (hb : Below w.heap.size w wr) (h5 : Below wr.heap.size wr w5) {names : List ByteArray} {E : List (ByteArray × Int)} (h6 : TabTo w5 w6 F' g N names E) (hn : names = nmL (min (i + 1) N)) (hE : E = numE (nmL (min (i + 1) N))) : FulI w g N (i + 1) w6 := by
  subst hn hE
  obtain ⟨⟨F2, hT, h2⟩, hA⟩ := h6
  have hz := hb.size
  have hb5 := hb.trans (h5.mono hz)
  have hz5 := hb5.size
  exact ⟨F2, hT, fun k hk => by rcases h2 k hk with h | h; exact hF k h; omega, hb5.trans (hA.below hz5 hF)⟩
theorem FulJ.step (hF : ∀ k, F' k → w.heap.size ≤ k) (hb : Below w.heap.size w wr) (h5 : Below wr.heap.size wr w5) {E : List (ByteArray × Int)} (h6 : TabTo w5 w6 F' g N (nmL N) E) (hE : E = numE (nmL N) ++ alL n (min (i + 1) 4096)) : FulJ w g N (i + 1) n w6 := by
  subst hE
  obtain ⟨⟨F2, hT, h2⟩, hA⟩ := h6
  have hz := hb.size
  have hb5 := hb.trans (h5.mono hz)
  have hz5 := hb5.size
  exact ⟨F2, hT, fun k hk => by rcases h2 k hk with h | h; exact hF k h; omega, hb5.trans (hA.below hz5 hF)⟩
end
theorem ful_add {N i : Nat} (hN : N ≤ 60) (hi : i < N) : addC N (nmL (min i N)) (numE (nmL (min i N))) (txt (5000 + i)) = 0 ∧ addK N (nmL (min i N)) (numE (nmL (min i N))) (txt (5000 + i)) = i ∧
    addN N (nmL (min i N)) (numE (nmL (min i N))) (txt (5000 + i)) = nmL (min (i + 1) N) ∧ addE N (nmL (min i N)) (numE (nmL (min i N))) (txt (5000 + i)) = numE (nmL (min (i + 1) N)) := by
  rw [Nat.min_eq_left (by omega), Nat.min_eq_left (by omega : i + 1 ≤ N)]
  have hc : addC N (nmL i) (numE (nmL i)) (txt (5000 + i)) = 0 := by
    unfold addC
    rw [if_neg (by rw [txt_ident]; decide), if_neg (by rw [nm_has (Nat.le_refl _) (by omega)]; decide), if_neg (by rw [nmL_len]; omega)]
  obtain ⟨e1, e2, e3⟩ := add_goes hc
  refine ⟨hc, by rw [e1, nmL_len], by rw [e2, nmL_succ], by rw [e3, nmL_succ, numE_snoc, nmL_len]⟩
theorem ful_end {N : Nat} (hN : N ≤ 60) : addC N (nmL (min N N)) (numE (nmL (min N N))) (txt (5000 + N)) = 25 ∧ addN N (nmL (min N N)) (numE (nmL (min N N))) (txt (5000 + N)) = nmL (min (N + 1) N) ∧ addE N (nmL (min N N)) (numE (nmL (min N N))) (txt (5000 + N)) = numE (nmL (min (N + 1) N)) := by
  rw [Nat.min_self, Nat.min_eq_right (by omega : N ≤ N + 1)]
  have hc : addC N (nmL N) (numE (nmL N)) (txt (5000 + N)) = 25 := by
    unfold addC
    rw [if_neg (by rw [txt_ident]; decide), if_neg (by rw [nm_has (Nat.le_refl _) (by omega)]; decide), if_pos (by rw [nmL_len]; omega)]
  obtain ⟨_, e2, e3⟩ := add_lies hc (by decide)
  exact ⟨hc, e2, e3⟩
theorem ful_ali {N i : Nat} {n : Int} (hN : N ≤ 60) (h0 : 0 ≤ n) (h1 : n < N) (hi : i ≤ 4096) : aliC (nmL N) (numE (nmL N) ++ alL n (min i 4096)) (txt i) n = (if i < 4096 then 0 else 25) ∧
    aliE (nmL N) (numE (nmL N) ++ alL n (min i 4096)) (numE (nmL N) ++ alL n (min i 4096)) (txt i) n = numE (nmL N) ++ alL n (min (i + 1) 4096) := by
  have hc : aliC (nmL N) (numE (nmL N) ++ alL n (min i 4096)) (txt i) n = (if i < 4096 then 0 else 25) := by
    unfold aliC
    rw [Nat.min_eq_left hi, if_neg (by rw [txt_ident]; decide), if_neg (by rw [nmL_len]; omega), if_neg (by rw [al_has n hN hi]; decide), List.length_append, numE_length, alL_len, nmL_len]
    by_cases h : i < 4096
    · rw [if_neg (by omega), if_pos h]
    · rw [if_pos (by omega), if_neg h]
  refine ⟨hc, ?_⟩
  unfold aliE
  rw [hc]
  by_cases h : i < 4096
  · rw [if_pos h, if_pos rfl, Nat.min_eq_left hi, Nat.min_eq_left (by omega), alL_succ, List.append_assoc]
  · rw [if_neg h, if_neg (by decide), Nat.min_eq_right (by omega), Nat.min_eq_right (by omega)]
theorem u16_of_wf {x : Int} (h : (Lit.int .u16 x).wf = true) : 0 ≤ x ∧ x ≤ 65535 := by
  have h' : IntKind.u16.min ≤ x ∧ x ≤ IntKind.u16.max := by simpa [Lit.wf] using h
  exact h'
set_option maxRecDepth 100000 in
set_option maxHeartbeats 8000000 in
theorem full_c (a n : Int) (w : World) (ha : 0 ≤ a ∧ a ≤ 65535) :
    Calls Try.prog 8 #[.int .u16 a, .int .i64 n] w fun e w' => e = .returned (.bool true) ∧ Below w.heap.size w w' := by
  obtain ⟨N, hN⟩ : ∃ N : Nat, 1 + a % 60 = (N : Int) := ⟨(1 + a % 60).toNat, by omega⟩
  have hN1 : 1 ≤ N := by omega
  have hN60 : N ≤ 60 := by omega
  obtain ⟨ha0, ha1⟩ := ha
  go_enter Try.func8, Try.ntmps8
  go_wp2_with (go_at_call 9; refine (new_c N _ (by omega)).mono ?_; rintro e w1 ⟨g, rfl, hT, hb1⟩)
  have HI0 : Hid (FulI w g N 0 w1) := Lib.hid ⟨fun k => w.heap.size ≤ k ∧ k < w1.heap.size, by simpa [nmL, numE] using hT.own, fun k hk => hk.1, hb1⟩
  have HN := Lib.hid hN
  clear hT hb1 ha0 ha1 hN
  go_loopw [7] (fun vi wr => ∃ i : Nat, i ≤ N + 1 ∧ vi = .int .i64 i ∧ Hid (FulI w g N i wr)) (fun vi _ => N + 1 - (intOf vi).toNat)
  case atStart => exact ⟨0, Nat.zero_le _, rfl, HI0⟩
  case round =>
    clear HI0
    obtain ⟨i, hi, rfl, HI⟩ := hrel
    obtain ⟨F', hT, hF, hb⟩ := HI.out
    have HT := Lib.hid hT
    have HF := Lib.hid hF
    have HB := Lib.hid hb
    have hTx := text_at (5000 + (i : Int)) (5000 + i) wr (by omega) (by omega)
    have HTx := Lib.hid hTx
    clear hT hF hb HI hTx
    rcases Nat.lt_trichotomy i N with hlt | rfl | hgt
    · have hlt' : (i : Int) < (N : Int) := by omega
      have hle' : (i : Int) ≤ (N : Int) := by omega
      obtain ⟨e1, e2, e3, e4⟩ := ful_add hN60 hlt
      have HA := Lib.hid (fun W (hW : Kp wr W) => add_c (txt (5000 + i)) (Kp.tab hW HT.out) (by rw [txt_size]; decide) (by omega) (by rw [nmL_len]; omega) (by rw [numE_length, nmL_len]; omega))
      rw [e1, e2] at HA
      have H3 := Lib.hid e3
      have H4 := Lib.hid e4
      clear e1 e2 e3 e4
      go_wp2_with (first
        | (go_at_call 24; refine HTx.out.mono ?_; rintro e w2 ⟨rfl, hb2⟩)
        | (go_at_call 19; refine (HA.out _ hb2).mono ?_; rintro e w6 ⟨rfl, h6⟩))
      go_roundw
      case rel => exact ⟨i + 1, by omega, by go_num, Lib.hid (FulI.step HF.out HB.out hb2 h6 H3.out H4.out)⟩
      case measure => simp [intOf]; omega
    · obtain ⟨e1, e3, e4⟩ := ful_end hN60
      have HA := Lib.hid (fun W (hW : Kp wr W) => add_c (txt (5000 + i)) (Kp.tab hW HT.out) (by rw [txt_size]; decide) (by omega) (by rw [nmL_len]; omega) (by rw [numE_length, nmL_len]; omega))
      rw [e1] at HA
      have H3 := Lib.hid e3
      have H4 := Lib.hid e4
      clear e1 e3 e4
      go_wp2_with (first
        | (go_at_call 24; refine HTx.out.mono ?_; rintro e w2 ⟨rfl, hb2⟩)
        | (go_at_call 19; refine (HA.out _ hb2).mono ?_; rintro e w6 ⟨rfl, h6⟩))
      go_roundw
      case rel => exact ⟨i + 1, by omega, by go_num, Lib.hid (FulI.step HF.out HB.out hb2 h6 H3.out H4.out)⟩
      case measure => simp [intOf]
    · obtain rfl : i = N + 1 := by omega
      have hgt' : ¬ ((N + 1 : Nat) : Int) ≤ (N : Int) := by omega
      have hT2 := HT.out
      rw [Nat.min_eq_right (by omega : N ≤ N + 1)] at hT2
      have HT2 := Lib.hid hT2
      clear hT2 HT HTx
      by_cases hout : n < 0 ∨ (N : Int) ≤ n
      · have hA := alias_c ⟨#[120]⟩ n HT2.out (by decide) (by rw [nmL_len]; omega) (by rw [numE_length]; omega)
        have hc : aliC (nmL N) (numE (nmL N)) ⟨#[120]⟩ n = 3 := by
          unfold aliC
          rw [if_neg (by rw [al_x]; decide), if_pos (by rw [nmL_len]; exact hout)]
        rw [hc] at hA
        have HA := Lib.hid hA
        clear hA hc
        rcases (by omega : n < 0 ∨ ¬ n < 0 ∧ (N : Int) ≤ n) with h0 | ⟨h0, h1⟩
        all_goals
          go_wp2_with (first
            | (go_at_call 20; refine HA.out.mono ?_; rintro e w6 ⟨rfl, h6⟩)
            | (go_at_call 11; refine (alive_c _).mono ?_; rintro e w9 ⟨rfl, hb9⟩))
          go_ret
          have hz := HB.out.size
          have hb6 := HB.out.trans (h6.2.below hz HF.out)
          exact ⟨rfl, hb6.trans (hb9.mono hb6.size)⟩
      · have h0 : ¬ n < 0 := by omega
        have h1 : ¬ (N : Int) ≤ n := by omega
        have HJ0 : Hid (FulJ w g N 0 n wr) := Lib.hid ⟨F', by simpa [alL] using HT2.out, HF.out, HB.out⟩
        clear HT2 HF HB hout
        go_wp2_with fail
        go_loopw [10] (fun vi w2 => ∃ i : Nat, i ≤ 4097 ∧ vi = .int .i64 i ∧ Hid (FulJ w g N i n w2)) (fun vi _ => 4097 - (intOf vi).toNat)
        case atStart => exact ⟨0, by decide, rfl, HJ0⟩
        case round =>
          clear HJ0
          obtain ⟨i, hi, rfl, HI⟩ := hrel
          obtain ⟨F', hT, hF, hb⟩ := HI.out
          have HT := Lib.hid hT
          have HF := Lib.hid hF
          have HB := Lib.hid hb
          clear hT hF hb HI
          by_cases hle : i ≤ 4096
          · have hle' : (i : Int) ≤ 4096 := by omega
            have HTx := Lib.hid (fun W => text_at (i : Int) i W rfl (by omega))
            obtain ⟨e1, e2⟩ := ful_ali hN60 (by omega) (by omega) hle (n := n)
            have hA := fun W (hW : Kp _ W) => alias_c (txt i) n (Kp.tab hW HT.out) (by rw [txt_size]; decide) (by rw [nmL_len]; omega) (by rw [List.length_append, numE_length, alL_len, nmL_len]; omega)
            rw [e1] at hA
            have H2 := Lib.hid e2
            clear e1 e2
            by_cases hlt : i < 4096
            · rw [if_pos hlt] at hA
              have HA := Lib.hid hA
              have hlt' : (i : Int) < 4096 := by omega
              have hne : ((i : Int) == 4096) = false := by simp; omega
              clear hA
              go_wp2_with (first
                | (go_at_call 24; refine (HTx.out _).mono ?_; rintro e w2 ⟨rfl, hb2⟩)
                | (go_at_call 20; refine (HA.out _ hb2).mono ?_; rintro e w6 ⟨rfl, h6⟩))
              go_roundw
              case rel => exact ⟨i + 1, by omega, by go_num, Lib.hid (FulJ.step HF.out HB.out hb2 h6 H2.out)⟩
              case measure => simp [intOf]; omega
            · rw [if_neg hlt] at hA
              have HA := Lib.hid hA
              obtain rfl : i = 4096 := by omega
              clear hA
              go_wp2_with (first
                | (go_at_call 24; refine (HTx.out _).mono ?_; rintro e w2 ⟨rfl, hb2⟩)
                | (go_at_call 20; refine (HA.out _ hb2).mono ?_; rintro e w6 ⟨rfl, h6⟩))
              go_roundw
              case rel => exact ⟨4097, by omega, by go_num, Lib.hid (FulJ.step HF.out HB.out hb2 h6 H2.out)⟩
              case measure => simp [intOf]
          · obtain rfl : i = 4097 := by omega
            have hT2 := HT.out
            rw [show min 4097 4096 = 4096 by decide] at hT2
            have hmem : (txt 4095, n) ∈ numE (nmL N) ++ alL n 4096 := List.mem_append.2 (.inr (List.mem_map.2 ⟨4095, List.mem_range.2 (by decide), rfl⟩))
            have hnd : (Keys (numE (nmL N) ++ alL n 4096)).Nodup := by
              obtain ⟨_, _, _, _, _, h, _⟩ := hT2
              exact h
            have e1 := lookE_mem hnd hmem
            have e2 := hasE_mem hmem
            have HFi := Lib.hid (fun W (hW : Kp _ W) => find_c (txt 4095) (Kp.tab hW hT2).tab (by rw [txt_size]; decide))
            rw [e1, e2] at HFi
            have HLe := Lib.hid (fun W (hW : Kp _ W) => len_c (Kp.tab hW hT2).tab)
            rw [nmL_len] at HLe
            have HTx := Lib.hid (fun W => text_at (4095 : Int) 4095 W rfl (by omega))
            clear hT2 hmem hnd e1 e2 HT
            go_wp2_with (first
              | (go_at_call 24; refine (HTx.out _).mono ?_; rintro e w2 ⟨rfl, hb2⟩)
              | (go_at_call 14; refine (HFi.out _ hb2).mono ?_; rintro e w3 ⟨rfl, rfl⟩)
              | (go_at_call 21; refine (HLe.out _ hb2).mono ?_; rintro e w4 ⟨rfl, rfl⟩)
              | (go_at_call 11; refine (alive_c _).mono ?_; rintro e w9 ⟨rfl, hb9⟩))
            go_ret
            have hb5 := HB.out.trans (hb2.mono HB.out.size)
            exact ⟨rfl, hb5.trans (hb9.mono hb5.size)⟩
end Go.Proofs.Ytffgjamnijhlpaa
