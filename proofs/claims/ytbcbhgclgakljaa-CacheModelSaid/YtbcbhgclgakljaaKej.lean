/- The reference's Find where there is something. -/
import Derived.Test.YtbcbhgclgakljaaKei
namespace Go.Proofs.Ytbcbhgclgakljaa
open Go.RowKit Go.Maps Go.WideElems Go.WideShapes
theorem vP_mkN {w1 w : World} {i2 i5 i : Nat} {s1 s2 : CS} {u : Value} {val : Nat → Option Value} (h2 : i ≠ i2) (h5 : i ≠ i5) (hy : val i = none) : vP w1 i2 i5 s1 s2 val i u w := by
  unfold vP
  rw [if_neg h2, if_neg h5]
  intro y hz
  rw [hy] at hz
  cases hz
def fdV (s : CS) (ao bo : Option Addr) (n cap cbp i : Nat) (k : K3) (d : Dc) (g4 g8 g9 g11 g13 : Nat) : Nat → Option Value
  | 0 => some (.agg #[.int .i64 s.size, .int .i64 s.seq, .slice ao n cap, .slice bo n cbp, .int .i64 (s.hits + 1), .int .i64 s.misses, .int .i64 s.evicted, .int .i64 s.resets])
  | 1 => some (.int .i64 i)
  | 3 => some (.agg #[.int .i64 k.a, .int .i64 k.b, .int .i64 k.c])
  | 4 => some (.agg #[.int .u32 d.al, .int .u32 d.aa, .int .u32 d.ad, .bool d.pm, .int .i64 d.sq])
  | 6 => some (.agg #[.int .u32 d.al, .int .u32 d.aa, .int .u32 d.ad, .bool d.pm, .int .i64 d.sq])
  | 9 => some (.bool true)
  | _ => none
set_option maxRecDepth 100000 in
set_option maxHeartbeats 16000000 in
theorem rfind_hit (s : CS) (ao bo : Option Addr) (n cap cbp : Nat) (k : K3) (w : World) (h : SR w s (.slice ao n cap) (.slice bo n cbp)) (ok : OkC s) (hm : 0 ≤ s.hits ∧ s.hits ≤ 1000000) (hl : s.L.length ≤ 50000) (d : Dc) (i : Nat) (hix : idxK s.L k = (i : Int)) (hli : s.L[i]? = some (k, d)) :
    Calls Try.prog 36 #[.agg #[.int .i64 s.size, .int .i64 s.seq, .slice ao n cap, .slice bo n cbp, .int .i64 s.hits, .int .i64 s.misses, .int .i64 s.evicted, .int .i64 s.resets], .int .i64 k.a, .int .i64 k.b, .int .i64 k.c] w fun e w' => ∃ vk' vd', e = .returned (.tuple #[.agg #[.int .i64 s.size, .int .i64 s.seq, vk', vd', .int .i64 (s.hits + 1), .int .i64 s.misses, .int .i64 s.evicted, .int .i64 s.resets], .agg #[.int .u32 d.al, .int .u32 d.aa, .int .u32 d.ad, .bool d.pm, .int .i64 d.sq], .bool true]) ∧ SR w' { s with hits := s.hits + 1, L := (k, d) :: s.L.eraseIdx i } vk' vd' ∧ Below w.heap.size w w' ∧ Own RK w' w.heap.size vk' (k :: keysK (s.L.eraseIdx i)) ∧ Own RD w' w.heap.size vd' (d :: (s.L.eraseIdx i).map (·.2)) := by
  have HB : Hid (Below w.heap.size w ((((w.alloc (.cells #[.int .i64 s.size, .int .i64 s.seq, .slice ao n cap, .slice bo n cbp, .int .i64 s.hits, .int .i64 s.misses, .int .i64 s.evicted, .int .i64 s.resets] 29)).alloc (.cells #[.int .i64 0, .int .i64 0, .slice none 0 0, .slice none 0 0, .int .i64 0, .int .i64 0, .int .i64 0, .int .i64 0] 29)).alloc (.cells #[.int .u32 0, .int .u32 0, .int .u32 0, .bool false, .int .i64 0] 39)).alloc (.cells #[.int .i64 k.a, .int .i64 k.b, .int .i64 k.c] 84))) := Lib.hid ((((((Below.refl _ _).alloc (Nat.le_refl _) _).alloc (by simp) _).alloc (by simp; omega) _).alloc (by simp; omega) _))
  have HS : Hid (Blk ((((w.alloc (.cells #[.int .i64 s.size, .int .i64 s.seq, .slice ao n cap, .slice bo n cbp, .int .i64 s.hits, .int .i64 s.misses, .int .i64 s.evicted, .int .i64 s.resets] 29)).alloc (.cells #[.int .i64 0, .int .i64 0, .slice none 0 0, .slice none 0 0, .int .i64 0, .int .i64 0, .int .i64 0, .int .i64 0] 29)).alloc (.cells #[.int .u32 0, .int .u32 0, .int .u32 0, .bool false, .int .i64 0] 39)).alloc (.cells #[.int .i64 k.a, .int .i64 k.b, .int .i64 k.c] 84)) w.heap.size 29 #[.int .i64 s.size, .int .i64 s.seq, .slice ao n cap, .slice bo n cbp, .int .i64 s.hits, .int .i64 s.misses, .int .i64 s.evicted, .int .i64 s.resets]) := Lib.hid ((((Blk.here rfl).alloc _).alloc _).alloc _)
  have HZ : Hid (Blk ((((w.alloc (.cells #[.int .i64 s.size, .int .i64 s.seq, .slice ao n cap, .slice bo n cbp, .int .i64 s.hits, .int .i64 s.misses, .int .i64 s.evicted, .int .i64 s.resets] 29)).alloc (.cells #[.int .i64 0, .int .i64 0, .slice none 0 0, .slice none 0 0, .int .i64 0, .int .i64 0, .int .i64 0, .int .i64 0] 29)).alloc (.cells #[.int .u32 0, .int .u32 0, .int .u32 0, .bool false, .int .i64 0] 39)).alloc (.cells #[.int .i64 k.a, .int .i64 k.b, .int .i64 k.c] 84)) (w.heap.size + 1) 29 #[.int .i64 0, .int .i64 0, .slice none 0 0, .slice none 0 0, .int .i64 0, .int .i64 0, .int .i64 0, .int .i64 0]) := Lib.hid (((Blk.here (by simp)).alloc _).alloc _)
  have HE : Hid (Blk ((((w.alloc (.cells #[.int .i64 s.size, .int .i64 s.seq, .slice ao n cap, .slice bo n cbp, .int .i64 s.hits, .int .i64 s.misses, .int .i64 s.evicted, .int .i64 s.resets] 29)).alloc (.cells #[.int .i64 0, .int .i64 0, .slice none 0 0, .slice none 0 0, .int .i64 0, .int .i64 0, .int .i64 0, .int .i64 0] 29)).alloc (.cells #[.int .u32 0, .int .u32 0, .int .u32 0, .bool false, .int .i64 0] 39)).alloc (.cells #[.int .i64 k.a, .int .i64 k.b, .int .i64 k.c] 84)) (w.heap.size + 1 + 1) 39 #[.int .u32 0, .int .u32 0, .int .u32 0, .bool false, .int .i64 0]) := Lib.hid ((Blk.here (by simp)).alloc _)
  have HK : Hid (Blk ((((w.alloc (.cells #[.int .i64 s.size, .int .i64 s.seq, .slice ao n cap, .slice bo n cbp, .int .i64 s.hits, .int .i64 s.misses, .int .i64 s.evicted, .int .i64 s.resets] 29)).alloc (.cells #[.int .i64 0, .int .i64 0, .slice none 0 0, .slice none 0 0, .int .i64 0, .int .i64 0, .int .i64 0, .int .i64 0] 29)).alloc (.cells #[.int .u32 0, .int .u32 0, .int .u32 0, .bool false, .int .i64 0] 39)).alloc (.cells #[.int .i64 k.a, .int .i64 k.b, .int .i64 k.c] 84)) (w.heap.size + 1 + 1 + 1) 84 #[.int .i64 k.a, .int .i64 k.b, .int .i64 k.c]) := Lib.hid (Blk.here (by simp))
  have HR0 := Lib.hid h
  have HIX := Lib.hid hix
  have HLI := Lib.hid hli
  have hiI : ¬ (i : Int) < 0 := by omega
  have HL := Lib.hid hl
  have hne48 : w.heap.size ≠ w.heap.size + 1 := by omega
  have hne49 : w.heap.size ≠ w.heap.size + 1 + 1 := by omega
  have hneB : w.heap.size ≠ w.heap.size + 1 + 1 + 1 ∧ w.heap.size + 1 + 1 + 1 ≠ w.heap.size + 1 ∧ w.heap.size + 1 + 1 + 1 ≠ w.heap.size + 1 + 1 := by omega
  have hne89 : w.heap.size + 1 ≠ w.heap.size + 1 + 1 := by omega
  have HG8 : Hid (w.heap.size ≤ w.heap.size + 1) := Lib.hid (by omega)
  have HG9 : Hid (w.heap.size ≤ w.heap.size + 1 + 1) := Lib.hid (by omega)
  obtain ⟨hm0, hm1⟩ := hm
  clear h hl hix hli
  go_enter Try.func36, Try.ntmps36
  go_upto_region 2 with fail
  generalize ((((w.alloc (.cells #[.int .i64 s.size, .int .i64 s.seq, .slice ao n cap, .slice bo n cbp, .int .i64 s.hits, .int .i64 s.misses, .int .i64 s.evicted, .int .i64 s.resets] 29)).alloc (.cells #[.int .i64 0, .int .i64 0, .slice none 0 0, .slice none 0 0, .int .i64 0, .int .i64 0, .int .i64 0, .int .i64 0] 29)).alloc (.cells #[.int .u32 0, .int .u32 0, .int .u32 0, .bool false, .int .i64 0] 39)).alloc (.cells #[.int .i64 k.a, .int .i64 k.b, .int .i64 k.c] 84)) = W at *
  generalize w.heap.size + 1 + 1 + 1 = g11 at *
  generalize w.heap.size + 1 + 1 = g9 at *
  generalize w.heap.size + 1 = g8 at *
  generalize hgx : w.heap.size = g4 at *
  have HRW : Hid (SR W s (.slice ao n cap) (.slice bo n cbp)) := Lib.hid (HR0.out.below (by first | exact HB.out | (rw [hgx]; exact HB.out)))
  have HIXC := Lib.hid (rindex_c s (.slice ao n cap) (.slice bo n cbp) k W HRW.out (by have := HL.out; omega))
  rw [HIX.out] at HIXC
  obtain ⟨c0, c1, c2, c3, c4, c5, c6, c7⟩ := HS.out.cells8
  obtain ⟨k0, k1, k2⟩ : W.cell? ⟨g11, 0, none⟩ = some (.int .i64 k.a) ∧ W.cell? ⟨g11, 1, none⟩ = some (.int .i64 k.b) ∧ W.cell? ⟨g11, 2, none⟩ = some (.int .i64 k.c) := ⟨HK.out.cell 0, HK.out.cell 1, HK.out.cell 2⟩
  go_upto_region 6 with (first | (go_at_call 53; refine HIXC.out.mono ?_; rintro e w2 ⟨rfl, hb2⟩; have HB2 := Lib.hid hb2; clear hb2) | fail)
  clear c0 c1 c2 c3 c4 c5 c6 c7 k0 k1 k2
  have HS2 := Lib.hid (HS.out.keep HB2.out)
  have HZ2 := Lib.hid (HZ.out.keep HB2.out)
  have HE2 := Lib.hid (HE.out.keep HB2.out)
  have HK2 := Lib.hid (HK.out.keep HB2.out)
  have HBB : Hid (Below g4 w w2) := Lib.hid (HB.out.trans (HB2.out.mono (by have := HB.out.size; omega)))
  have hnl : s.L.length = n := by
    obtain ⟨_, _, e, _⟩ := HR0.out.d.form
    simp only [Value.slice.injEq, List.length_map] at e
    exact e.2.1.symm
  have hin : i < n := by have := (List.getElem?_eq_some_iff.1 HLI.out).1; omega
  obtain ⟨gb, rfl⟩ : ∃ gb, bo = some ⟨gb, 0, none⟩ := by
    rcases HR0.out.fd with e | ⟨g, c, e⟩
    · simp only [Value.slice.injEq] at e; omega
    · simp only [Value.slice.injEq] at e; exact ⟨g, e.1⟩
  have HD5 : w2.cell? ⟨gb, i * 5, none⟩ = some (.int .u32 d.al) ∧ w2.cell? ⟨gb, i * 5 + 1, none⟩ = some (.int .u32 d.aa) ∧ w2.cell? ⟨gb, i * 5 + 2, none⟩ = some (.int .u32 d.ad) ∧ w2.cell? ⟨gb, i * 5 + 3, none⟩ = some (.bool d.pm) ∧ w2.cell? ⟨gb, i * 5 + 4, none⟩ = some (.int .i64 d.sq) := by
    have hr := HRW.out.d.below HB2.out
    obtain ⟨_, _, e, _, hr⟩ := hr.form
    have hx : (s.L.map (·.2))[i]? = some d := by rw [List.getElem?_map, HLI.out]; rfl
    obtain ⟨g', o', e2, _, hR⟩ := hr (by intro e; rw [e] at hx; simp at hx)
    simp only [Value.slice.injEq] at e
    obtain ⟨e1, _, _⟩ := e
    rw [e2] at e1
    simp only [Option.some.injEq, Addr.mk.injEq] at e1
    obtain ⟨rfl, rfl, _⟩ := e1
    have := hR i d hx
    have t := fun k u (h : (RD.c d)[k]? = some u) => by have h2 := this k u h; rw [Nat.zero_add] at h2; exact h2
    exact ⟨t 0 _ rfl, t 1 _ rfl, t 2 _ rfl, t 3 _ rfl, t 4 _ rfl⟩
  obtain ⟨d0, d1, d2, d3, d4⟩ := HD5
  have hinI : (i : Int) < (n : Int) := by omega
  have hi0I : (0 : Int) ≤ (i : Int) := by omega
  have HIN := Lib.hid hin
  have HNL := Lib.hid hnl
  clear hin hnl
  obtain ⟨c0, c1, c2, c3, c4, c5, c6, c7⟩ := HS2.out.cells8
  obtain ⟨f0, f1, f2, f3, f4, f5, f6, f7⟩ := HS2.out.fro8
  go_upto_region 7 with fail
  clear d0 d1 d2 d3 d4 c0 c1 c2 c3 c4 c5 c6 c7 f0 f1 f2 f3 f4 f5 f6 f7
  have hba : Below w2.heap.size w2 (w2.alloc (.cells #[.int .u32 d.al, .int .u32 d.aa, .int .u32 d.ad, .bool d.pm, .int .i64 d.sq] 39)) := (Below.refl _ _).alloc (Nat.le_refl _) _
  have H13' : Hid (Blk (w2.alloc (.cells #[.int .u32 d.al, .int .u32 d.aa, .int .u32 d.ad, .bool d.pm, .int .i64 d.sq] 39)) w2.heap.size 39 #[.int .u32 d.al, .int .u32 d.aa, .int .u32 d.ad, .bool d.pm, .int .i64 d.sq]) := Lib.hid (Blk.new _ _ _)
  have HS3 := Lib.hid (HS2.out.keep hba)
  have HZ3 := Lib.hid (HZ2.out.keep hba)
  have HE3 := Lib.hid (HE2.out.keep hba)
  have HK3 := Lib.hid (HK2.out.keep hba)
  have HB3 : Hid (Below g4 w (w2.alloc (.cells #[.int .u32 d.al, .int .u32 d.aa, .int .u32 d.ad, .bool d.pm, .int .i64 d.sq] 39))) := Lib.hid (HBB.out.trans (hba.mono (by have := HBB.out.size; omega)))
  have h13g : g4 < w2.heap.size ∧ g8 < w2.heap.size ∧ g9 < w2.heap.size := ⟨HS2.out.lt, HZ2.out.lt, HE2.out.lt⟩
  clear hba
  generalize w2.alloc (.cells #[.int .u32 d.al, .int .u32 d.aa, .int .u32 d.ad, .bool d.pm, .int .i64 d.sq] 39) = w3 at *
  generalize w2.heap.size = g13 at *
  obtain ⟨h13a, h13b, h13c⟩ := h13g
  obtain ⟨c0, c1, c2, c3, c4, c5, c6, c7⟩ := HS3.out.cells8
  obtain ⟨f0, f1, f2, f3, f4, f5, f6, f7⟩ := HS3.out.fro8
  go_upto_region 8 with fail
  have H4 : Hid (Blk (w3.setCell ⟨g4, 4, none⟩ (.int .i64 (s.hits + 1))) g4 29 #[.int .i64 s.size, .int .i64 s.seq, .slice ao n cap, .slice (some ⟨gb, 0, none⟩) n cbp, .int .i64 (s.hits + 1), .int .i64 s.misses, .int .i64 s.evicted, .int .i64 s.resets]) := Lib.hid (by simpa using HS3.out.set 4 (.int .i64 (s.hits + 1)))
  have H8 := Lib.hid (HZ3.out.far (p := ⟨g4, 4, none⟩) (fun e => hne48 e.symm) (.int .i64 (s.hits + 1)))
  have H9 := Lib.hid (HE3.out.far (p := ⟨g4, 4, none⟩) (fun e => hne49 e.symm) (.int .i64 (s.hits + 1)))
  have H11 := Lib.hid (HK3.out.far (p := ⟨g4, 4, none⟩) (fun e => hneB.1 e.symm) (.int .i64 (s.hits + 1)))
  have H13 := Lib.hid (H13'.out.far (p := ⟨g4, 4, none⟩) (fun e => by have : g13 = g4 := e; omega) (.int .i64 (s.hits + 1)))
  have HB4 : Hid (Below g4 w (w3.setCell ⟨g4, 4, none⟩ (.int .i64 (s.hits + 1)))) := Lib.hid (HB3.out.setCell (p := ⟨g4, 4, none⟩) (Nat.le_refl _) _)
  generalize w3.setCell ⟨g4, 4, none⟩ (.int .i64 (s.hits + 1)) = W1 at *
  clear c0 c1 c2 c3 c4 c5 c6 c7 f0 f1 f2 f3 f4 f5 f6 f7
  have HNE : Hid (¬ (g4 = g8 ∨ g4 = g9) ∧ ¬ (g11 = g8 ∨ g11 = g9) ∧ ¬ (g13 = g8 ∨ g13 = g9)) := Lib.hid ⟨by rintro (e | e); exact hne48 e; exact hne49 e, by rintro (e | e); exact hneB.2.1 e; exact hneB.2.2 e, by omega⟩
  have hbw0 : ∀ v, Apart (fun j => j = g8 ∨ j = g9) W1 v → Below w.heap.size w v := fun v ha => by
    rw [hgx]
    exact HB4.out.trans (ha.below (by have := HB4.out.size; omega) (fun j e => by have := HG8.out; have := HG9.out; rcases e with e | e <;> omega))
  have HBW := Lib.hid hbw0
  have HWO := Lib.hid (fun v (ha : Apart (fun j => j = g8 ∨ j = g9) W1 v) => rwithout_c { s with hits := s.hits + 1 } (.slice ao n cap) (.slice (some ⟨gb, 0, none⟩) n cbp) i v (SR.below (w := w) (s := { s with hits := s.hits + 1 }) ⟨HR0.out.k, HR0.out.d, HR0.out.fk, HR0.out.fd⟩ (HBW.out v ha)) HL.out (by have := HNL.out; have := HIN.out; simp only; omega))
  have HLE : Hid (({ s with hits := s.hits + 1, L := s.L.eraseIdx i } : CS).L.length ≤ 50000) := Lib.hid (by simp only; rw [List.length_eraseIdx]; have := HL.out; split <;> omega)
  clear hbw0 HIXC hneB
  refine wp_region_lnk (vC W1 g8 g9 7 8 ({ s with hits := s.hits + 1, L := (k, d) :: s.L.eraseIdx i } : CS) d) (vR W1 g8 g9 7 8 ({ s with hits := s.hits + 1, L := (k, d) :: s.L.eraseIdx i } : CS) d) (vP W1 2 5 ({ s with hits := s.hits + 1, L := s.L.eraseIdx i } : CS) ({ s with hits := s.hits + 1, L := (k, d) :: s.L.eraseIdx i } : CS) (fdV s ao (some ⟨gb, 0, none⟩) n cap cbp i k d g4 g8 g9 g11 g13)) (fun _ => none) (by kernel_rfl) (by kernel_rfl) (by kernel_rfl) ⟨Apart.of (Below.refl _ _).drew, fun _ => ⟨_, _, _, _, _, _, _, _, H8.out.drew⟩, fun h => by simp at h, fun _ => ⟨Dc.z, H9.out.drew⟩, fun h => by simp at h⟩ (vC_step H8.out.lt H9.out.lt hne89 (by decide)) [] (by kernel_rfl) (fun _ _ _ _ _ _ _ h hr => vP_keep H8.out.lt H9.out.lt h hr) ?_ ?_
  · skip
    refine ⟨⟨trivial, fun A v dd hd hC hF hW K Q hk => ?_⟩, ⟨trivial, fun A v dd hd hC hF hW K Q hk => ?_⟩, ⟨trivial, fun A v dd hd hC hF hW K Q hk => ?_⟩, ⟨trivial, fun A v dd hd hC hF hW K Q hk => ?_⟩, ⟨trivial, fun A v dd hd hC hF hW K Q hk => ?_⟩, ⟨trivial, fun A v dd hd hC hF hW K Q hk => ?_⟩, ⟨trivial, fun A v dd hd hC hF hW K Q hk => ?_⟩, ⟨trivial, fun A v dd hd hC hF hW K Q hk => ?_⟩, ⟨trivial, fun A v dd hd hC hF hW K Q hk => ?_⟩, ⟨trivial, fun A v dd hd hC hF hW K Q hk => ?_⟩, trivial⟩
    · have f4 : A.tmps[4]?.getD undef = .pointer (some ⟨g4, 0, none⟩) := fg_none (hF 4) (by kernel_rfl)
      obtain ⟨x0, x1, x2, x3, x4, x5, x6, x7⟩ := (hC.a.blk H4.out HNE.out.1).cells8
      refine Giv.wp (φ := vP W1 2 5 ({ s with hits := s.hits + 1, L := s.L.eraseIdx i } : CS) ({ s with hits := s.hits + 1, L := (k, d) :: s.L.eraseIdx i } : CS) (fdV s ao (some ⟨gb, 0, none⟩) n cap cbp i k d g4 g8 g9 g11 g13) 0) ?_ hk
      unfold Giv
      go_simp
      exact giv_val (P := Try.prog) (by unfold vR; rw [if_neg (by decide), if_neg (by decide)]; exact Below.refl _ _) (vP_mk (by decide) (by decide) rfl)
    · have f12 : A.tmps[12]?.getD undef = .int .i64 i := fg_none (hF 12) (by kernel_rfl)
      refine Giv.wp (φ := vP W1 2 5 ({ s with hits := s.hits + 1, L := s.L.eraseIdx i } : CS) ({ s with hits := s.hits + 1, L := (k, d) :: s.L.eraseIdx i } : CS) (fdV s ao (some ⟨gb, 0, none⟩) n cap cbp i k d g4 g8 g9 g11 g13) 1) ?_ hk
      unfold Giv
      go_simp
      exact giv_val (P := Try.prog) (by unfold vR; rw [if_neg (by decide), if_neg (by decide)]; exact Below.refl _ _) (vP_mk (by decide) (by decide) rfl)
    · have f38 : A.tmps[38]?.getD undef = .agg #[.int .i64 s.size, .int .i64 s.seq, .slice ao n cap, .slice (some ⟨gb, 0, none⟩) n cbp, .int .i64 (s.hits + 1), .int .i64 s.misses, .int .i64 s.evicted, .int .i64 s.resets] := vP_val (fg_some (hF 38) (j := 0) (by kernel_rfl) (by kernel_rfl)) (by decide) (by decide) rfl
      have f39 : A.tmps[39]?.getD undef = .int .i64 i := vP_val (fg_some (hF 39) (j := 1) (by kernel_rfl) (by kernel_rfl)) (by decide) (by decide) rfl
      refine Giv.wp (φ := vP W1 2 5 ({ s with hits := s.hits + 1, L := s.L.eraseIdx i } : CS) ({ s with hits := s.hits + 1, L := (k, d) :: s.L.eraseIdx i } : CS) (fdV s ao (some ⟨gb, 0, none⟩) n cap cbp i k d g4 g8 g9 g11 g13) 2) ?_ hk
      unfold Giv
      go_simp
      exact giv_enter (P := Try.prog) ((HWO.out v hC.a).mono fun e w2 h => by obtain ⟨vk, vd, he, _, hb, h1, h2⟩ := h; exact ⟨_, he, (by unfold vR; rw [if_neg (by decide), if_neg (by decide)]; exact hb), (by unfold vP; rw [if_pos rfl]; exact OwnS.of (s := { s with hits := s.hits + 1, L := s.L.eraseIdx i }) h1 h2 hC.a.size)⟩)
    · have f11 : A.tmps[11]?.getD undef = .pointer (some ⟨g11, 0, none⟩) := fg_none (hF 11) (by kernel_rfl)
      obtain ⟨x0, x1, x2⟩ : v.cell? ⟨g11, 0, none⟩ = some (.int .i64 k.a) ∧ v.cell? ⟨g11, 1, none⟩ = some (.int .i64 k.b) ∧ v.cell? ⟨g11, 2, none⟩ = some (.int .i64 k.c) := by have hb4 := hC.a.blk H11.out HNE.out.2.1; exact ⟨hb4.cell 0, hb4.cell 1, hb4.cell 2⟩
      refine Giv.wp (φ := vP W1 2 5 ({ s with hits := s.hits + 1, L := s.L.eraseIdx i } : CS) ({ s with hits := s.hits + 1, L := (k, d) :: s.L.eraseIdx i } : CS) (fdV s ao (some ⟨gb, 0, none⟩) n cap cbp i k d g4 g8 g9 g11 g13) 3) ?_ hk
      unfold Giv
      go_simp
      exact giv_val (P := Try.prog) (by unfold vR; rw [if_neg (by decide), if_neg (by decide)]; exact Below.refl _ _) (vP_mk (by decide) (by decide) rfl)
    · have f13 : A.tmps[13]?.getD undef = .pointer (some ⟨g13, 0, none⟩) := fg_none (hF 13) (by kernel_rfl)
      obtain ⟨x0, x1, x2, x3, x4, _⟩ := (hC.a.blk H13.out HNE.out.2.2).cells5
      refine Giv.wp (φ := vP W1 2 5 ({ s with hits := s.hits + 1, L := s.L.eraseIdx i } : CS) ({ s with hits := s.hits + 1, L := (k, d) :: s.L.eraseIdx i } : CS) (fdV s ao (some ⟨gb, 0, none⟩) n cap cbp i k d g4 g8 g9 g11 g13) 4) ?_ hk
      unfold Giv
      go_simp
      exact giv_val (P := Try.prog) (by unfold vR; rw [if_neg (by decide), if_neg (by decide)]; exact Below.refl _ _) (vP_mk (by decide) (by decide) rfl)
    · obtain ⟨a2, n2, c2, b2, m2, e2, f40, ok2, od2⟩ := vP_two (fg_some (hF 40) (j := 2) (by kernel_rfl) (by kernel_rfl))
      simp only [stA] at f40
      have f41 : A.tmps[41]?.getD undef = .agg #[.int .i64 k.a, .int .i64 k.b, .int .i64 k.c] := vP_val (fg_some (hF 41) (j := 3) (by kernel_rfl) (by kernel_rfl)) (by decide) (by decide) rfl
      have f42 : A.tmps[42]?.getD undef = .agg #[.int .u32 d.al, .int .u32 d.aa, .int .u32 d.ad, .bool d.pm, .int .i64 d.sq] := vP_val (fg_some (hF 42) (j := 4) (by kernel_rfl) (by kernel_rfl)) (by decide) (by decide) rfl
      refine Giv.wp (φ := vP W1 2 5 ({ s with hits := s.hits + 1, L := s.L.eraseIdx i } : CS) ({ s with hits := s.hits + 1, L := (k, d) :: s.L.eraseIdx i } : CS) (fdV s ao (some ⟨gb, 0, none⟩) n cap cbp i k d g4 g8 g9 g11 g13) 5) ?_ hk
      unfold Giv
      go_simp
      exact giv_enter (P := Try.prog) ((rused_c { s with hits := s.hits + 1, L := s.L.eraseIdx i } _ _ k d v (Own.sr ok2 od2) HLE.out).mono fun e w2 h => by obtain ⟨vk, vd, he, _, hb, h1, h2⟩ := h; exact ⟨_, he, (by unfold vR; rw [if_neg (by decide), if_neg (by decide)]; exact hb), (by unfold vP; rw [if_neg (by decide), if_pos rfl]; exact OwnS.of (s := { s with hits := s.hits + 1, L := (k, d) :: s.L.eraseIdx i }) h1 h2 hC.a.size)⟩)
    · have f13 : A.tmps[13]?.getD undef = .pointer (some ⟨g13, 0, none⟩) := fg_none (hF 13) (by kernel_rfl)
      obtain ⟨x0, x1, x2, x3, x4, _⟩ := (hC.a.blk H13.out HNE.out.2.2).cells5
      refine Giv.wp (φ := vP W1 2 5 ({ s with hits := s.hits + 1, L := s.L.eraseIdx i } : CS) ({ s with hits := s.hits + 1, L := (k, d) :: s.L.eraseIdx i } : CS) (fdV s ao (some ⟨gb, 0, none⟩) n cap cbp i k d g4 g8 g9 g11 g13) 6) ?_ hk
      unfold Giv
      go_simp
      exact giv_val (P := Try.prog) (by unfold vR; rw [if_neg (by decide), if_neg (by decide)]; exact Below.refl _ _) (vP_mk (by decide) (by decide) rfl)
    · have f8 : A.tmps[8]?.getD undef = .pointer (some ⟨g8, 0, none⟩) := fg_none (hF 8) (by kernel_rfl)
      obtain ⟨a5, n5, c5, b5, m5, e5, f43, ok5, od5⟩ := vP_five (by decide) (fg_some (hF 43) (j := 5) (by kernel_rfl) (by kernel_rfl))
      simp only [stA] at f43
      obtain ⟨_, _, _, _, _, _, _, _, hcs⟩ := hC.z hd
      obtain ⟨x0, x1, x2, x3, x4, x5, x6, x7⟩ := hcs.cells8
      obtain ⟨r0, r1, r2, r3, r4, r5, r6, r7⟩ := hcs.fro8
      refine Giv.wp (φ := vP W1 2 5 ({ s with hits := s.hits + 1, L := s.L.eraseIdx i } : CS) ({ s with hits := s.hits + 1, L := (k, d) :: s.L.eraseIdx i } : CS) (fdV s ao (some ⟨gb, 0, none⟩) n cap cbp i k d g4 g8 g9 g11 g13) 7) ?_ hk
      unfold Giv
      go_simp
      first | exact giv_skip (P := Try.prog) (by unfold vR; rw [if_pos rfl]; exact ⟨_, _, ⟨_, _, _, _, _, _, rfl, ok5, od5⟩, rfl⟩) (vP_mkN (by decide) (by decide) rfl) | exact giv_val (P := Try.prog) (by unfold vR; rw [if_pos rfl]; exact ⟨_, _, ⟨_, _, _, _, _, _, rfl, ok5, od5⟩, rfl⟩) (vP_mkN (by decide) (by decide) rfl)
    · have f9 : A.tmps[9]?.getD undef = .pointer (some ⟨g9, 0, none⟩) := fg_none (hF 9) (by kernel_rfl)
      have f44 : A.tmps[44]?.getD undef = .agg #[.int .u32 d.al, .int .u32 d.aa, .int .u32 d.ad, .bool d.pm, .int .i64 d.sq] := vP_val (fg_some (hF 44) (j := 6) (by kernel_rfl) (by kernel_rfl)) (by decide) (by decide) rfl
      obtain ⟨xx, hcs⟩ := hC.e0 hd
      obtain ⟨x0, x1, x2, x3, x4, r0, r1, r2, r3, r4⟩ := Blk.cells5 hcs
      refine Giv.wp (φ := vP W1 2 5 ({ s with hits := s.hits + 1, L := s.L.eraseIdx i } : CS) ({ s with hits := s.hits + 1, L := (k, d) :: s.L.eraseIdx i } : CS) (fdV s ao (some ⟨gb, 0, none⟩) n cap cbp i k d g4 g8 g9 g11 g13) 8) ?_ hk
      unfold Giv
      go_simp
      first | exact giv_skip (P := Try.prog) (by unfold vR; rw [if_neg (by decide), if_pos rfl]; rfl) (vP_mkN (by decide) (by decide) rfl) | exact giv_val (P := Try.prog) (by unfold vR; rw [if_neg (by decide), if_pos rfl]; rfl) (vP_mkN (by decide) (by decide) rfl)
    · refine Giv.wp (φ := vP W1 2 5 ({ s with hits := s.hits + 1, L := s.L.eraseIdx i } : CS) ({ s with hits := s.hits + 1, L := (k, d) :: s.L.eraseIdx i } : CS) (fdV s ao (some ⟨gb, 0, none⟩) n cap cbp i k d g4 g8 g9 g11 g13) 9) ?_ hk
      unfold Giv
      go_simp
      exact giv_val (P := Try.prog) (by unfold vR; rw [if_neg (by decide), if_neg (by decide)]; exact Below.refl _ _) (vP_mk (by decide) (by decide) rfl)
  · intro a0 W9 dd hsd hC hsz hdf hF hL
    obtain ⟨vk, vd, hy, a5, n5, c5, b5, m5, e5, he, ok5, od5⟩ := hC.y (hsd 7 (by decide))
    have hd9 := hC.e1 (hsd 8 (by decide))
    have hbz := HBW.out W9 hC.a
    have ha := end_gen [false, false, false, false, false, false, false, false, false, false, true, false, false, false, false, false, false, false, false, false, false, false, false, false, false, false, false, false, false, false, false, false, false, false, false, false, false, false, true, true, true, true, true, true, true] hsz hdf hF (by kernel_rfl)
    have f10 : a0.tmps[10]?.getD undef = .bool true := vP_val (fe_some (hF 10) (j := 9) (by kernel_rfl)) (by decide) (by decide) rfl
    rw [ha]
    clear ha hF hL hsd hC
    simp only [cutM_yes, cutM_no, cutM_nil, Nat.reduceAdd]
    rw [f10]
    clear f10
    generalize a0.tmps[38]?.getD undef = s38
    generalize a0.tmps[39]?.getD undef = s39
    generalize a0.tmps[40]?.getD undef = s40
    generalize a0.tmps[41]?.getD undef = s41
    generalize a0.tmps[42]?.getD undef = s42
    generalize a0.tmps[43]?.getD undef = s43
    generalize a0.tmps[44]?.getD undef = s44
    clear hsz hdf
    simp only [stA, Value.agg.injEq, Array.mk.injEq, List.cons.injEq, true_and, and_true] at he
    obtain ⟨rfl, rfl⟩ := he
    obtain ⟨q0, q1, q2, q3, q4, q5, q6, q7⟩ := Blk.cells8 (show Blk W9 g8 29 (stA _ _ _) from hy)
    obtain ⟨p0, p1, p2, p3, p4, _⟩ := Blk.cells5 (show Blk W9 g9 39 (decC d) from hd9)
    go_wp2_with fail
    refine bodyPost_ret (v := .tuple #[.agg #[.int .i64 s.size, .int .i64 s.seq, .slice a5 n5 c5, .slice b5 m5 e5, .int .i64 (s.hits + 1), .int .i64 s.misses, .int .i64 s.evicted, .int .i64 s.resets], .agg #[.int .u32 d.al, .int .u32 d.aa, .int .u32 d.ad, .bool d.pm, .int .i64 d.sq], .bool true]) (by simp [results, Try.results36, go_sem, q0, q1, q2, q3, q4, q5, q6, q7, p0, p1, p2, p3, p4]) rfl ?_
    have hBs := HB4.out.size
    exact ⟨_, _, rfl, Own.sr ok5 od5, (by first | exact hbz | (rw [← hgx]; exact hbz)), Own.base ok5 (by omega), Own.base od5 (by omega)⟩
end Go.Proofs.Ytbcbhgclgakljaa
