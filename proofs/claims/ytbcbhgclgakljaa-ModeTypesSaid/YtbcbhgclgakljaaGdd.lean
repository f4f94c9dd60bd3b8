/- Lists copied with what is inside of their elements. -/
import Derived.Test.YtbcbhgclgakljaaGdc
namespace Go.Proofs.Ytbcbhgclgakljaa
open Go.RowKit Go.Maps
/-- all blocks but one stay -/
structure Bt (g : Nat) (w w' : World) : Prop where
  os : w'.os = w.os
  tape : w'.tape = w.tape
  output : w'.output = w.output
  size : w.heap.size ≤ w'.heap.size
  block : ∀ k, k < w.heap.size → k ≠ g → w'.heap[k]? = w.heap[k]?
section
variable {g : Nat} {w w' w2 : World}
theorem Bt.of (h : Below w.heap.size w w') : Bt g w w' := ⟨h.os, h.tape, h.output, h.size, fun k hk _ => h.block k hk⟩
theorem Bt.trans (h : Bt g w w') (k : Bt g w' w2) : Bt g w w2 := ⟨k.os.trans h.os, k.tape.trans h.tape, k.output.trans h.output, Nat.le_trans h.size k.size, fun j hj hg => (k.block j (Nat.lt_of_lt_of_le hj h.size) hg).trans (h.block j hj hg)⟩
theorem Bt.set (h : Bt g w w') {i : Nat} (x : Value) : Bt g w (w'.setCell ⟨g, i, none⟩ x) :=
  ⟨h.os, h.tape, h.output, Nat.le_trans h.size ((Below.refl g w').setCell (p := ⟨g, i, none⟩) (Nat.le_refl _) x).size, fun k hk hg => (Below.heap_setCell w' ⟨g, i, none⟩ x k (by simpa using hg)).trans (h.block k hk hg)⟩
theorem Bt.below {w0 : World} (h : Bt g w w') (hb : Below w0.heap.size w0 w) (hg : w0.heap.size ≤ g) : Below w0.heap.size w0 w' :=
  ⟨h.os.trans hb.os, h.tape.trans hb.tape, h.output.trans hb.output, Nat.le_trans hb.size h.size, fun k hk => (h.block k (Nat.lt_of_lt_of_le hk hb.size) (by omega)).trans (hb.block k hk)⟩
end
theorem slotB {w : World} {g i : Nat} {t : TypeId} {cs : Array Value} {v : Value} (h : Blk w g t cs) (hv : cs[i]? = some v) : w.cell? ⟨g, i, none⟩ = some v ∧ w.frozen? ⟨g, i, none⟩ = false := ⟨by rw [h.cell, hv], h.frozen _⟩
theorem owns_sl {w : World} {B sz n : Nat} {te : TypeId} {v : Value} {xs : List Value} (h : w.ownsRow B te sz v n xs) : ∃ a c, v = .slice a n c := by
  rcases h.2 with ⟨h1, h2⟩ | ⟨g, cap, cur, h1, _⟩
  · exact ⟨none, 0, by rw [h1, h2]⟩
  · exact ⟨_, _, h1⟩
theorem Sl.len {sz by' n : Nat} {w : World} {v : Value} {xs : List Value} (h : Sl sz by' w v n xs) : xs.length = n * sz := by
  rcases h with ⟨_, h2, h3⟩ | ⟨_, _, _, _, _, _, h, _⟩
  · rw [h2, h3]; simp
  · exact h
theorem Sl.nmax {sz by' n : Nat} {w : World} {v : Value} {xs : List Value} (h : Sl sz by' w v n xs) : n ≤ maxLen := by
  rcases h with ⟨_, h2, h3⟩ | ⟨_, _, _, _, h, _⟩
  · rw [h2]; exact Nat.zero_le _
  · exact h
/-- what is made of element i of a block -/
def EP (sz : Nat) (X : Nat → Array Value → Prop) (i g : Nat) (te : TypeId) (cs : Array Value) (u u' : World) : Prop :=
  ∃ cs', Blk u' g te cs' ∧ cs'.size = cs.size ∧ (∀ k, (k < i * sz ∨ i * sz + sz ≤ k) → cs'[k]? = cs[k]?) ∧ Bt g u u' ∧ X i cs'
/-- what each returns -/
def OutE (sz : Nat) (X : Nat → Array Value → Prop) (B : Nat) (te : TypeId) (n : Nat) (v : Value) (w : World) : Prop :=
  (n = 0 ∧ ∃ a c, v = .slice a 0 c) ∨ ∃ g c cs, v = .slice (some ⟨g, 0, none⟩) n c ∧ n ≤ c ∧ B ≤ g ∧ Blk w g te cs ∧ cs.size = c * sz ∧ ∀ k, k < n → X k cs
set_option maxRecDepth 100000 in
set_option maxHeartbeats 4000000 in
theorem policy1_g {w : World} {g j np : Nat} {t : TypeId} {cs : Array Value} {pv : Value} {ps : List Value} (hb : Blk w g t cs) (hc : cs[j + 1]? = some pv) (hs : Sl 1 16 w pv np ps) :
    Calls Try.prog 57 #[.pointer (some ⟨g, j, none⟩)] w fun e w' => e = .returned (.tuple #[]) ∧ ∃ a c, Blk w' g t (cs.setIfInBounds (j + 1) (.slice a np c)) ∧ Bt g w w' := by
  have h1 : w.cell? ⟨g, j + 1, none⟩ = some pv := by rw [hb.cell, hc]
  have HB := Lib.hid hb
  have HC := Lib.hid hc
  have HS := Lib.hid (cloneStr_c hs)
  obtain ⟨a0, c0, rfl, _⟩ := hs.isSl
  clear hb hc hs
  go_enter Try.func57, Try.ntmps57
  go_wp2_with (first | (go_at_call 58; refine HS.out.mono ?_; rintro e w2 ⟨v2, rfl, h2, h3⟩; have H3 := Lib.hid h3; obtain ⟨a2, c2, rfl⟩ := owns_sl h2; obtain ⟨e1, e2⟩ := slotB (HB.out.keep H3.out) HC.out; clear h1 h2 h3) | fail)
  refine bodyPost_end (v := .tuple #[]) (by simp [results, Try.results57, go_sem]) rfl ⟨rfl, a2, c2, (HB.out.keep H3.out).set _ _, (Bt.of H3.out).set _⟩
set_option maxRecDepth 100000 in
set_option maxHeartbeats 4000000 in
theorem policy2_g {w : World} {g j np : Nat} {t : TypeId} {cs : Array Value} {pv : Value} {ps : List Value} (hb : Blk w g t cs) (hc : cs[j + 1]? = some pv) (hs : Sl 1 16 w pv np ps) :
    Calls Try.prog 60 #[.pointer (some ⟨g, j, none⟩)] w fun e w' => e = .returned (.tuple #[]) ∧ ∃ a c, Blk w' g t (cs.setIfInBounds (j + 1) (.slice a np c)) ∧ Bt g w w' := by
  have h1 : w.cell? ⟨g, j + 1, none⟩ = some pv := by rw [hb.cell, hc]
  have HB := Lib.hid hb
  have HC := Lib.hid hc
  have HS := Lib.hid (cloneStr_c hs)
  obtain ⟨a0, c0, rfl, _⟩ := hs.isSl
  clear hb hc hs
  go_enter Try.func60, Try.ntmps60
  go_wp2_with (first | (go_at_call 58; refine HS.out.mono ?_; rintro e w2 ⟨v2, rfl, h2, h3⟩; have H3 := Lib.hid h3; obtain ⟨a2, c2, rfl⟩ := owns_sl h2; obtain ⟨e1, e2⟩ := slotB (HB.out.keep H3.out) HC.out; clear h1 h2 h3) | fail)
  refine bodyPost_end (v := .tuple #[]) (by simp [results, Try.results60, go_sem]) rfl ⟨rfl, a2, c2, (HB.out.keep H3.out).set _ _, (Bt.of H3.out).set _⟩
set_option maxRecDepth 100000 in
set_option maxHeartbeats 8000000 in
theorem eachClass_c {w : World} {v : Value} {n : Nat} {xs : List Value} (X : Nat → Array Value → Prop) (hX : ∀ i cs cs', (∀ k, i * 2 ≤ k → k < i * 2 + 2 → cs'[k]? = cs[k]?) → X i cs → X i cs') (h : Sl 2 40 w v n xs)
    (hE : ∀ i, i < n → ∀ (u : World) (g : Nat) (cs : Array Value), w.heap.size ≤ g → Below w.heap.size w u → Blk u g 116 cs → (∀ k, k < 2 → cs[i * 2 + k]? = xs[i * 2 + k]?) → Calls Try.prog 57 #[.pointer (some ⟨g, i * 2, none⟩)] u fun e u' => e = .returned (.tuple #[]) ∧ EP 2 X i g 116 cs u u') :
    Calls Try.prog 56 #[v, .func (.func 57) #[] #[]] w fun e w' => ∃ v', e = .returned v' ∧ OutE 2 X w.heap.size 116 n v' w' ∧ Below w.heap.size w w' := by
  have HS := Lib.hid (cloneClass_c h)
  have HE := Lib.hid hE
  have HX := Lib.hid hX
  have hxl := h.len
  have HXL := Lib.hid hxl
  have hnm := h.nmax
  obtain ⟨a0, c0, rfl, _⟩ := h.isSl
  clear hE hX h hxl
  go_enter Try.func56, Try.ntmps56
  go_upto_region 2 with (first | (go_at_call 79; refine HS.out.mono ?_; rintro e w2 ⟨v2, rfl, h1, h2⟩; have H1 := Lib.hid h1; have H2 := Lib.hid h2; clear h1 h2; obtain ⟨a2, c2, e2⟩ := owns_sl H1.out; subst e2) | fail)
  by_cases h0 : n = 0
  · subst h0
    go_wp2_with fail
    go_loopw [10] (fun vi wr => vi = .int .i64 0 ∧ wr = w2) (fun _ _ => 0)
    case atStart => exact ⟨rfl, rfl⟩
    case round =>
      obtain ⟨rfl, rfl⟩ := hrel
      go_wp2_with fail
      go_ret
      exact ⟨_, rfl, .inl ⟨rfl, _, _, rfl⟩, H2.out⟩
  · rcases H1.out.2 with ⟨_, e0⟩ | ⟨g2, cap, cur, e1, hg2, hbl, hcap, hcm, hsz, hcur⟩
    · exact absurd e0 h0
    simp only [Value.slice.injEq] at e1
    obtain ⟨rfl, _, rfl⟩ := e1
    have HBL : Hid (Blk w2 g2 116 cur) := Lib.hid hbl
    have HG2 := Lib.hid hg2
    have HCUR : Hid (∀ k, k < n * 2 → cur[k]? = xs[k]?) := Lib.hid (fun k hk => by
      have h5 := congrArg (fun l => l[k]?) hcur
      simp only [List.getElem?_take, if_pos hk] at h5
      simpa using h5)
    have HSZ := Lib.hid hsz
    have hcapN : (n : Int) ≤ (c2 : Int) := by omega
    have hcN : n ≤ c2 := hcap
    have hnI : (n : Int) ≤ 9223372036854775807 := by have h9 : maxLen = 9223372036854775807 := (by decide); omega
    clear hbl hcur hsz hcap hg2 hcm
    go_wp2_with fail
    go_loopw [10] (fun vi wr => ∃ (i : Nat) (cs : Array Value), i ≤ n ∧ vi = .int .i64 i ∧ Hid (Blk wr g2 116 cs) ∧ Hid (cs.size = cur.size) ∧ Hid (Bt g2 w2 wr) ∧ Hid (∀ k, i * 2 ≤ k → k < n * 2 → cs[k]? = xs[k]?) ∧ Hid (∀ k, k < i → X k cs)) (fun vi _ => n - (intOf vi).toNat)
    case atStart => exact ⟨0, cur, Nat.zero_le _, rfl, HBL, Lib.hid rfl, Lib.hid (Bt.of (Below.refl _ _)), Lib.hid (fun k _ hk => HCUR.out k hk), Lib.hid (fun k hk => absurd hk (Nat.not_lt_zero _))⟩
    case round =>
      obtain ⟨i, cs, hi, rfl, HB, HZ, HT, HR, HD⟩ := hrel
      by_cases hlt : i < n
      · have hltI : (i : Int) < (n : Int) := by omega
        have HP := Lib.hid (HE.out i hlt wr g2 cs HG2.out (HT.out.below H2.out HG2.out) HB.out (fun k hk => HR.out (i * 2 + k) (Nat.le_add_right _ _) (by omega)))
        go_wp2_with (go_at_call 57; refine HP.out.mono ?_; rintro e w3 ⟨rfl, h3⟩; have H3 := Lib.hid h3; clear h3)
        obtain ⟨cs', p1, p2, p3, p4, p5⟩ := H3.out
        exact ⟨⟨i + 1, cs', by omega, by go_num, Lib.hid p1, Lib.hid (p2.trans HZ.out), Lib.hid (HT.out.trans p4), Lib.hid (fun k h4 h5 => (p3 k (.inr (by omega))).trans (HR.out k (by omega) h5)), Lib.hid (fun k hk => by
          by_cases e : k = i
          · subst e; exact p5
          · exact HX.out k cs cs' (fun q h4 h5 => p3 q (.inl (by omega))) (HD.out k (by omega)))⟩, by simp [intOf]; omega⟩
      · obtain rfl : i = n := by omega
        go_wp2_with fail
        go_ret
        exact ⟨_, rfl, .inr ⟨g2, c2, cs, rfl, hcN, HG2.out, HB.out, HZ.out.trans HSZ.out, HD.out⟩, HT.out.below H2.out HG2.out⟩
set_option maxRecDepth 100000 in
set_option maxHeartbeats 8000000 in
theorem eachType_c {w : World} {v : Value} {n : Nat} {xs : List Value} (X : Nat → Array Value → Prop) (hX : ∀ i cs cs', (∀ k, i * 3 ≤ k → k < i * 3 + 3 → cs'[k]? = cs[k]?) → X i cs → X i cs') (h : Sl 3 48 w v n xs)
    (hE : ∀ i, i < n → ∀ (u : World) (g : Nat) (cs : Array Value), w.heap.size ≤ g → Below w.heap.size w u → Blk u g 99 cs → (∀ k, k < 3 → cs[i * 3 + k]? = xs[i * 3 + k]?) → Calls Try.prog 60 #[.pointer (some ⟨g, i * 3, none⟩)] u fun e u' => e = .returned (.tuple #[]) ∧ EP 3 X i g 99 cs u u') :
    Calls Try.prog 59 #[v, .func (.func 60) #[] #[]] w fun e w' => ∃ v', e = .returned v' ∧ OutE 3 X w.heap.size 99 n v' w' ∧ Below w.heap.size w w' := by
  have HS := Lib.hid (cloneType_c h)
  have HE := Lib.hid hE
  have HX := Lib.hid hX
  have hxl := h.len
  have HXL := Lib.hid hxl
  have hnm := h.nmax
  obtain ⟨a0, c0, rfl, _⟩ := h.isSl
  clear hE hX h hxl
  go_enter Try.func59, Try.ntmps59
  go_upto_region 2 with (first | (go_at_call 80; refine HS.out.mono ?_; rintro e w2 ⟨v2, rfl, h1, h2⟩; have H1 := Lib.hid h1; have H2 := Lib.hid h2; clear h1 h2; obtain ⟨a2, c2, e2⟩ := owns_sl H1.out; subst e2) | fail)
  by_cases h0 : n = 0
  · subst h0
    go_wp2_with fail
    go_loopw [10] (fun vi wr => vi = .int .i64 0 ∧ wr = w2) (fun _ _ => 0)
    case atStart => exact ⟨rfl, rfl⟩
    case round =>
      obtain ⟨rfl, rfl⟩ := hrel
      go_wp2_with fail
      go_ret
      exact ⟨_, rfl, .inl ⟨rfl, _, _, rfl⟩, H2.out⟩
  · rcases H1.out.2 with ⟨_, e0⟩ | ⟨g2, cap, cur, e1, hg2, hbl, hcap, hcm, hsz, hcur⟩
    · exact absurd e0 h0
    simp only [Value.slice.injEq] at e1
    obtain ⟨rfl, _, rfl⟩ := e1
    have HBL : Hid (Blk w2 g2 99 cur) := Lib.hid hbl
    have HG2 := Lib.hid hg2
    have HCUR : Hid (∀ k, k < n * 3 → cur[k]? = xs[k]?) := Lib.hid (fun k hk => by
      have h5 := congrArg (fun l => l[k]?) hcur
      simp only [List.getElem?_take, if_pos hk] at h5
      simpa using h5)
    have HSZ := Lib.hid hsz
    have hcapN : (n : Int) ≤ (c2 : Int) := by omega
    have hcN : n ≤ c2 := hcap
    have hnI : (n : Int) ≤ 9223372036854775807 := by have h9 : maxLen = 9223372036854775807 := (by decide); omega
    clear hbl hcur hsz hcap hg2 hcm
    go_wp2_with fail
    go_loopw [10] (fun vi wr => ∃ (i : Nat) (cs : Array Value), i ≤ n ∧ vi = .int .i64 i ∧ Hid (Blk wr g2 99 cs) ∧ Hid (cs.size = cur.size) ∧ Hid (Bt g2 w2 wr) ∧ Hid (∀ k, i * 3 ≤ k → k < n * 3 → cs[k]? = xs[k]?) ∧ Hid (∀ k, k < i → X k cs)) (fun vi _ => n - (intOf vi).toNat)
    case atStart => exact ⟨0, cur, Nat.zero_le _, rfl, HBL, Lib.hid rfl, Lib.hid (Bt.of (Below.refl _ _)), Lib.hid (fun k _ hk => HCUR.out k hk), Lib.hid (fun k hk => absurd hk (Nat.not_lt_zero _))⟩
    case round =>
      obtain ⟨i, cs, hi, rfl, HB, HZ, HT, HR, HD⟩ := hrel
      by_cases hlt : i < n
      · have hltI : (i : Int) < (n : Int) := by omega
        have HP := Lib.hid (HE.out i hlt wr g2 cs HG2.out (HT.out.below H2.out HG2.out) HB.out (fun k hk => HR.out (i * 3 + k) (Nat.le_add_right _ _) (by omega)))
        go_wp2_with (go_at_call 60; refine HP.out.mono ?_; rintro e w3 ⟨rfl, h3⟩; have H3 := Lib.hid h3; clear h3)
        obtain ⟨cs', p1, p2, p3, p4, p5⟩ := H3.out
        exact ⟨⟨i + 1, cs', by omega, by go_num, Lib.hid p1, Lib.hid (p2.trans HZ.out), Lib.hid (HT.out.trans p4), Lib.hid (fun k h4 h5 => (p3 k (.inr (by omega))).trans (HR.out k (by omega) h5)), Lib.hid (fun k hk => by
          by_cases e : k = i
          · subst e; exact p5
          · exact HX.out k cs cs' (fun q h4 h5 => p3 q (.inl (by omega))) (HD.out k (by omega)))⟩, by simp [intOf]; omega⟩
      · obtain rfl : i = n := by omega
        go_wp2_with fail
        go_ret
        exact ⟨_, rfl, .inr ⟨g2, c2, cs, rfl, hcN, HG2.out, HB.out, HZ.out.trans HSZ.out, HD.out⟩, HT.out.below H2.out HG2.out⟩
set_option maxRecDepth 100000 in
set_option maxHeartbeats 8000000 in
theorem eachExpr_c {w : World} {v : Value} {n : Nat} {xs : List Value} (X : Nat → Array Value → Prop) (hX : ∀ i cs cs', (∀ k, i * 10 ≤ k → k < i * 10 + 10 → cs'[k]? = cs[k]?) → X i cs → X i cs') (h : Sl 10 112 w v n xs)
    (hE : ∀ i, i < n → ∀ (u : World) (g : Nat) (cs : Array Value), w.heap.size ≤ g → Below w.heap.size w u → Blk u g 144 cs → (∀ k, k < 10 → cs[i * 10 + k]? = xs[i * 10 + k]?) → Calls Try.prog 66 #[.pointer (some ⟨g, i * 10, none⟩)] u fun e u' => e = .returned (.tuple #[]) ∧ EP 10 X i g 144 cs u u') :
    Calls Try.prog 65 #[v, .func (.func 66) #[] #[]] w fun e w' => ∃ v', e = .returned v' ∧ OutE 10 X w.heap.size 144 n v' w' ∧ Below w.heap.size w w' := by
  have HS := Lib.hid (cloneExpr_c h)
  have HE := Lib.hid hE
  have HX := Lib.hid hX
  have hxl := h.len
  have HXL := Lib.hid hxl
  have hnm := h.nmax
  obtain ⟨a0, c0, rfl, _⟩ := h.isSl
  clear hE hX h hxl
  go_enter Try.func65, Try.ntmps65
  go_upto_region 2 with (first | (go_at_call 81; refine HS.out.mono ?_; rintro e w2 ⟨v2, rfl, h1, h2⟩; have H1 := Lib.hid h1; have H2 := Lib.hid h2; clear h1 h2; obtain ⟨a2, c2, e2⟩ := owns_sl H1.out; subst e2) | fail)
  by_cases h0 : n = 0
  · subst h0
    go_wp2_with fail
    go_loopw [10] (fun vi wr => vi = .int .i64 0 ∧ wr = w2) (fun _ _ => 0)
    case atStart => exact ⟨rfl, rfl⟩
    case round =>
      obtain ⟨rfl, rfl⟩ := hrel
      go_wp2_with fail
      go_ret
      exact ⟨_, rfl, .inl ⟨rfl, _, _, rfl⟩, H2.out⟩
  · rcases H1.out.2 with ⟨_, e0⟩ | ⟨g2, cap, cur, e1, hg2, hbl, hcap, hcm, hsz, hcur⟩
    · exact absurd e0 h0
    simp only [Value.slice.injEq] at e1
    obtain ⟨rfl, _, rfl⟩ := e1
    have HBL : Hid (Blk w2 g2 144 cur) := Lib.hid hbl
    have HG2 := Lib.hid hg2
    have HCUR : Hid (∀ k, k < n * 10 → cur[k]? = xs[k]?) := Lib.hid (fun k hk => by
      have h5 := congrArg (fun l => l[k]?) hcur
      simp only [List.getElem?_take, if_pos hk] at h5
      simpa using h5)
    have HSZ := Lib.hid hsz
    have hcapN : (n : Int) ≤ (c2 : Int) := by omega
    have hcN : n ≤ c2 := hcap
    have hnI : (n : Int) ≤ 9223372036854775807 := by have h9 : maxLen = 9223372036854775807 := (by decide); omega
    clear hbl hcur hsz hcap hg2 hcm
    go_wp2_with fail
    go_loopw [10] (fun vi wr => ∃ (i : Nat) (cs : Array Value), i ≤ n ∧ vi = .int .i64 i ∧ Hid (Blk wr g2 144 cs) ∧ Hid (cs.size = cur.size) ∧ Hid (Bt g2 w2 wr) ∧ Hid (∀ k, i * 10 ≤ k → k < n * 10 → cs[k]? = xs[k]?) ∧ Hid (∀ k, k < i → X k cs)) (fun vi _ => n - (intOf vi).toNat)
    case atStart => exact ⟨0, cur, Nat.zero_le _, rfl, HBL, Lib.hid rfl, Lib.hid (Bt.of (Below.refl _ _)), Lib.hid (fun k _ hk => HCUR.out k hk), Lib.hid (fun k hk => absurd hk (Nat.not_lt_zero _))⟩
    case round =>
      obtain ⟨i, cs, hi, rfl, HB, HZ, HT, HR, HD⟩ := hrel
      by_cases hlt : i < n
      · have hltI : (i : Int) < (n : Int) := by omega
        have HP := Lib.hid (HE.out i hlt wr g2 cs HG2.out (HT.out.below H2.out HG2.out) HB.out (fun k hk => HR.out (i * 10 + k) (Nat.le_add_right _ _) (by omega)))
        go_wp2_with (go_at_call 66; refine HP.out.mono ?_; rintro e w3 ⟨rfl, h3⟩; have H3 := Lib.hid h3; clear h3)
        obtain ⟨cs', p1, p2, p3, p4, p5⟩ := H3.out
        exact ⟨⟨i + 1, cs', by omega, by go_num, Lib.hid p1, Lib.hid (p2.trans HZ.out), Lib.hid (HT.out.trans p4), Lib.hid (fun k h4 h5 => (p3 k (.inr (by omega))).trans (HR.out k (by omega) h5)), Lib.hid (fun k hk => by
          by_cases e : k = i
          · subst e; exact p5
          · exact HX.out k cs cs' (fun q h4 h5 => p3 q (.inl (by omega))) (HD.out k (by omega)))⟩, by simp [intOf]; omega⟩
      · obtain rfl : i = n := by omega
        go_wp2_with fail
        go_ret
        exact ⟨_, rfl, .inr ⟨g2, c2, cs, rfl, hcN, HG2.out, HB.out, HZ.out.trans HSZ.out, HD.out⟩, HT.out.below H2.out HG2.out⟩
set_option maxRecDepth 100000 in
set_option maxHeartbeats 8000000 in
theorem eachConstraint_c {w : World} {v : Value} {n : Nat} {xs : List Value} (X : Nat → Array Value → Prop) (hX : ∀ i cs cs', (∀ k, i * 13 ≤ k → k < i * 13 + 13 → cs'[k]? = cs[k]?) → X i cs → X i cs') (h : Sl 13 128 w v n xs)
    (hE : ∀ i, i < n → ∀ (u : World) (g : Nat) (cs : Array Value), w.heap.size ≤ g → Below w.heap.size w u → Blk u g 160 cs → (∀ k, k < 13 → cs[i * 13 + k]? = xs[i * 13 + k]?) → Calls Try.prog 72 #[.pointer (some ⟨g, i * 13, none⟩)] u fun e u' => e = .returned (.tuple #[]) ∧ EP 13 X i g 160 cs u u') :
    Calls Try.prog 71 #[v, .func (.func 72) #[] #[]] w fun e w' => ∃ v', e = .returned v' ∧ OutE 13 X w.heap.size 160 n v' w' ∧ Below w.heap.size w w' := by
  have HS := Lib.hid (cloneConstraint_c h)
  have HE := Lib.hid hE
  have HX := Lib.hid hX
  have hxl := h.len
  have HXL := Lib.hid hxl
  have hnm := h.nmax
  obtain ⟨a0, c0, rfl, _⟩ := h.isSl
  clear hE hX h hxl
  go_enter Try.func71, Try.ntmps71
  go_upto_region 2 with (first | (go_at_call 82; refine HS.out.mono ?_; rintro e w2 ⟨v2, rfl, h1, h2⟩; have H1 := Lib.hid h1; have H2 := Lib.hid h2; clear h1 h2; obtain ⟨a2, c2, e2⟩ := owns_sl H1.out; subst e2) | fail)
  by_cases h0 : n = 0
  · subst h0
    go_wp2_with fail
    go_loopw [10] (fun vi wr => vi = .int .i64 0 ∧ wr = w2) (fun _ _ => 0)
    case atStart => exact ⟨rfl, rfl⟩
    case round =>
      obtain ⟨rfl, rfl⟩ := hrel
      go_wp2_with fail
      go_ret
      exact ⟨_, rfl, .inl ⟨rfl, _, _, rfl⟩, H2.out⟩
  · rcases H1.out.2 with ⟨_, e0⟩ | ⟨g2, cap, cur, e1, hg2, hbl, hcap, hcm, hsz, hcur⟩
    · exact absurd e0 h0
    simp only [Value.slice.injEq] at e1
    obtain ⟨rfl, _, rfl⟩ := e1
    have HBL : Hid (Blk w2 g2 160 cur) := Lib.hid hbl
    have HG2 := Lib.hid hg2
    have HCUR : Hid (∀ k, k < n * 13 → cur[k]? = xs[k]?) := Lib.hid (fun k hk => by
      have h5 := congrArg (fun l => l[k]?) hcur
      simp only [List.getElem?_take, if_pos hk] at h5
      simpa using h5)
    have HSZ := Lib.hid hsz
    have hcapN : (n : Int) ≤ (c2 : Int) := by omega
    have hcN : n ≤ c2 := hcap
    have hnI : (n : Int) ≤ 9223372036854775807 := by have h9 : maxLen = 9223372036854775807 := (by decide); omega
    clear hbl hcur hsz hcap hg2 hcm
    go_wp2_with fail
    go_loopw [10] (fun vi wr => ∃ (i : Nat) (cs : Array Value), i ≤ n ∧ vi = .int .i64 i ∧ Hid (Blk wr g2 160 cs) ∧ Hid (cs.size = cur.size) ∧ Hid (Bt g2 w2 wr) ∧ Hid (∀ k, i * 13 ≤ k → k < n * 13 → cs[k]? = xs[k]?) ∧ Hid (∀ k, k < i → X k cs)) (fun vi _ => n - (intOf vi).toNat)
    case atStart => exact ⟨0, cur, Nat.zero_le _, rfl, HBL, Lib.hid rfl, Lib.hid (Bt.of (Below.refl _ _)), Lib.hid (fun k _ hk => HCUR.out k hk), Lib.hid (fun k hk => absurd hk (Nat.not_lt_zero _))⟩
    case round =>
      obtain ⟨i, cs, hi, rfl, HB, HZ, HT, HR, HD⟩ := hrel
      by_cases hlt : i < n
      · have hltI : (i : Int) < (n : Int) := by omega
        have HP := Lib.hid (HE.out i hlt wr g2 cs HG2.out (HT.out.below H2.out HG2.out) HB.out (fun k hk => HR.out (i * 13 + k) (Nat.le_add_right _ _) (by omega)))
        go_wp2_with (go_at_call 72; refine HP.out.mono ?_; rintro e w3 ⟨rfl, h3⟩; have H3 := Lib.hid h3; clear h3)
        obtain ⟨cs', p1, p2, p3, p4, p5⟩ := H3.out
        exact ⟨⟨i + 1, cs', by omega, by go_num, Lib.hid p1, Lib.hid (p2.trans HZ.out), Lib.hid (HT.out.trans p4), Lib.hid (fun k h4 h5 => (p3 k (.inr (by omega))).trans (HR.out k (by omega) h5)), Lib.hid (fun k hk => by
          by_cases e : k = i
          · subst e; exact p5
          · exact HX.out k cs cs' (fun q h4 h5 => p3 q (.inl (by omega))) (HD.out k (by omega)))⟩, by simp [intOf]; omega⟩
      · obtain rfl : i = n := by omega
        go_wp2_with fail
        go_ret
        exact ⟨_, rfl, .inr ⟨g2, c2, cs, rfl, hcN, HG2.out, HB.out, HZ.out.trans HSZ.out, HD.out⟩, HT.out.below H2.out HG2.out⟩
end Go.Proofs.Ytbcbhgclgakljaa
