/- Links: leave, follow; a ring. -/
import Derived.Test.YtbcbhgclgakljaaKcb
import Derived.Test.YtbcbhgclgakljaaQt
import Derived.Test.YtbcbhgclgakljaaPhh
import Derived.WalkSmall
import Derived.LaidEqlPtr
import Derived.BigRegion
import Derived.Deep.DeepCutAuto
import Derived.Deep.LoopGhost
import Derived.Deep.Fields
namespace Go.Proofs.Ytbcbhgclgakljaa
open Go.RowKit Go.Maps
section
variable {w : World} {S : List Lk} {N V : Nat → Nat}
set_option maxRecDepth 100000 in
set_option maxHeartbeats 4000000 in
theorem leave_c (x y z : Lk) (h : LB w S N V) (hx : x ∈ S) (hy : y ∈ S) (hz : z ∈ S) (ey : V x.g = y.g) (ez : N x.g = z.g) :
    Calls Try.prog 78 #[.pointer (some ⟨x.g, 0, none⟩)] w fun e w' => e = .returned (.tuple #[]) ∧ LB w' S (updN N y.g z.g) (updN V z.g y.g) ∧ Apart (fun k => ∃ x ∈ S, x.g = k) w w' := by
  have HX : Hid (∀ u, Kp w u → u.cell? ⟨x.g, 8, none⟩ = some (.pointer (some ⟨z.g, 0, none⟩)) ∧ u.cell? ⟨x.g, 9, none⟩ = some (.pointer (some ⟨y.g, 0, none⟩))) := Lib.hid fun u hu => by
    have hc := (h.keep hu).cells hx
    rw [ey, ez] at hc
    exact ⟨hc.2.2.2.2.2.2.2.2.1, hc.2.2.2.2.2.2.2.2.2⟩
  have HL := Lib.hid h
  go_enter Try.func78, Try.ntmps78
  go_upto_region 0 with fail
  refine wp_region_kt 16 (by kernel_rfl) (by kernel_rfl) ?_
  simp only [List.take_succ_cons, List.take_zero, List.drop_succ_cons, List.drop_zero]
  repeat (first
    | go_big_quiet_skip
    | (go_big_quiet_want
       go_big_quiet_op
       first
         | go_big_quiet_on
         | (apply Exists.intro
            refine ⟨fun w1 hC => ?_, ?_⟩
            · first
                | (obtain ⟨c8, c9⟩ := HX.out w1 hC; go_simp; exact rfl)
                | (obtain ⟨c8, c9⟩ := HX.out w1 hC; go_simp; exact ⟨rfl, rfl⟩)
                | exact rfl
                | (go_simp; exact ⟨rfl, rfl⟩)
            go_big_quiet_on)))
  refine wpQuiet_nil ?_
  intro W hC
  have hL := h.keep hC
  have c1 := (hL.cells hy).2.2.2.2.2.2.2.2.1
  have f1 := hL.frozen hy 8
  have hL1 := hL.setN y.g z.g
  have c2 := (hL1.cells hz).2.2.2.2.2.2.2.2.2
  have f2 := hL1.frozen hz 9
  have HL2 := Lib.hid (hL1.setV z.g y.g)
  have HA : Hid (Apart (fun k => ∃ x ∈ S, x.g = k) w ((W.setCell ⟨y.g, 8, none⟩ (.pointer (some ⟨z.g, 0, none⟩))).setCell ⟨z.g, 9, none⟩ (.pointer (some ⟨y.g, 0, none⟩)))) := Lib.hid (((Apart.of hC).setCell (p := ⟨y.g, 8, none⟩) (.inl ⟨y, hy, rfl⟩) _).setCell (p := ⟨z.g, 9, none⟩) (.inl ⟨z, hz, rfl⟩) _)
  clear hL hL1 HL HX
  go_wp2_with fail
  exact bodyPost_end (v := .tuple #[]) (by simp [results, Try.results78, go_sem]) rfl ⟨rfl, HL2.out, HA.out⟩
end
/-- a ring: its own link, then those of S -/
def RingW (w : World) (r : Nat) (S : List Lk) : Prop := ∃ N V, LB w (hd r :: S) N V ∧ Chn N V (r :: S.map Lk.g ++ [r])
/-- the blocks of a ring -/
def Rg (r : Nat) (S : List Lk) (k : Nat) : Prop := k = r ∨ ∃ x ∈ S, x.g = k
theorem mem_hd {r p : Nat} {S : List Lk} (h : p ∈ r :: S.map Lk.g) : ∃ y ∈ hd r :: S, y.g = p := by
  rcases List.mem_cons.1 h with rfl | h
  · exact ⟨hd p, by simp, rfl⟩
  · obtain ⟨y, hy, rfl⟩ := List.mem_map.1 h
    exact ⟨y, by simp [hy], rfl⟩
/-- a list that is not empty has a last one; one with something behind has a first -/
theorem has_last {α : Type} (x : α) (l : List α) : ∃ X p, x :: l = X ++ [p] := ⟨(x :: l).dropLast, (x :: l).getLast (by simp), (List.dropLast_concat_getLast (by simp)).symm⟩
theorem has_first {α : Type} (l : List α) (x : α) : ∃ n Y, l ++ [x] = n :: Y := by
  cases l with
  | nil => exact ⟨x, [], rfl⟩
  | cons a l => exact ⟨a, l ++ [x], rfl⟩
theorem ring_nodup {r : Nat} {l : List Nat} (h : (r :: l).Nodup) : (r :: l ++ [r]).dropLast.Nodup ∧ (r :: l ++ [r]).tail.Nodup := by
  constructor
  · rw [List.dropLast_concat]; exact h
  · have h' := List.nodup_cons.1 h
    rw [List.cons_append, List.tail_cons, List.nodup_append]
    refine ⟨h'.2, by simp, ?_⟩
    intro a ha b hb
    simp only [List.mem_singleton] at hb
    subst hb
    rintro rfl
    exact h'.1 ha
section
variable {w : World} {r : Nat}
theorem ring_leave (x : Lk) (S1 S2 : List Lk) (h : RingW w r (S1 ++ x :: S2)) (hn : (r :: (S1 ++ x :: S2).map Lk.g).Nodup) :
    Calls Try.prog 78 #[.pointer (some ⟨x.g, 0, none⟩)] w fun e w' => e = .returned (.tuple #[]) ∧ RingW w' r (S1 ++ S2) ∧ (∃ N V, Blk w' x.g 107 (cellsL x N V)) ∧ Apart (Rg r (S1 ++ x :: S2)) w w' := by
  obtain ⟨N, V, hL, hc⟩ := h
  obtain ⟨hd1, ht1⟩ := ring_nodup hn
  obtain ⟨X, p, hX⟩ := has_last r (S1.map Lk.g)
  obtain ⟨n, Y, hY⟩ := has_first (S2.map Lk.g) r
  have e1 : r :: (S1 ++ x :: S2).map Lk.g ++ [r] = X ++ p :: x.g :: n :: Y := by
    have : r :: (S1 ++ x :: S2).map Lk.g ++ [r] = (r :: S1.map Lk.g) ++ x.g :: (S2.map Lk.g ++ [r]) := by simp
    rw [this, hX, hY]; simp
  have e2 : r :: (S1 ++ S2).map Lk.g ++ [r] = X ++ p :: n :: Y := by
    have : r :: (S1 ++ S2).map Lk.g ++ [r] = (r :: S1.map Lk.g) ++ (S2.map Lk.g ++ [r]) := by simp
    rw [this, hX, hY]; simp
  rw [e1] at hc hd1 ht1
  obtain ⟨_, m2, m3, _⟩ := chn_mid hc
  have hp : p ∈ r :: S1.map Lk.g := by rw [hX]; simp
  have hnm : n ∈ r :: S2.map Lk.g := by
    have : n ∈ S2.map Lk.g ++ [r] := by rw [hY]; simp
    simp only [List.mem_append, List.mem_singleton] at this
    simp only [List.mem_cons]
    exact this.symm
  obtain ⟨y, hy, rfl⟩ := mem_hd hp
  obtain ⟨z, hz, rfl⟩ := mem_hd hnm
  have hyS : y ∈ hd r :: (S1 ++ x :: S2) := by
    rcases List.mem_cons.1 hy with rfl | hy
    · simp
    · simp [hy]
  have hzS : z ∈ hd r :: (S1 ++ x :: S2) := by
    rcases List.mem_cons.1 hz with rfl | hz
    · simp
    · simp [hz]
  have hxS : x ∈ hd r :: (S1 ++ x :: S2) := by simp
  refine (leave_c x y z hL hxS hyS hzS m2 m3).mono ?_
  rintro e w' ⟨rfl, h1, h2⟩
  refine ⟨rfl, ⟨_, _, h1.sub ?_, ?_⟩, ⟨_, _, h1 x hxS⟩, h2.more ?_⟩
  · intro u hu
    rcases List.mem_cons.1 hu with rfl | hu
    · simp
    · rcases List.mem_append.1 hu with hu | hu <;> simp [hu]
  · rw [e2]
    exact chn_leave hc hd1 ht1
  · rintro k ⟨u, hu, rfl⟩
    rcases List.mem_cons.1 hu with rfl | hu
    · exact .inl rfl
    · exact .inr ⟨u, hu, rfl⟩
end
/-- the second statement of follow draws its order: what each operation does, what it leaves, what is known of memory on the way -/
def folR (x y z : Lk) : Nat → World → World → Prop
  | 12, w, w' => w' = w.setCell ⟨y.g, 8, none⟩ (.pointer (some ⟨x.g, 0, none⟩))
  | 15, w, w' => w' = w.setCell ⟨z.g, 9, none⟩ (.pointer (some ⟨x.g, 0, none⟩))
  | _, w, w' => w' = w
def folP (x y z : Lk) : Nat → Value → World → Prop
  | 0, v, _ => v = .pointer (some ⟨x.g, 0, none⟩)
  | 1, v, _ => v = .pointer (some ⟨x.g, 0, none⟩)
  | 2, v, _ => v = .pointer (some ⟨x.g, 9, none⟩)
  | 3, v, _ => v = .pointer (some ⟨y.g, 0, none⟩)
  | 4, v, _ => v = .pointer (some ⟨x.g, 0, none⟩)
  | 5, v, _ => v = .pointer (some ⟨x.g, 0, none⟩)
  | 6, v, _ => v = .pointer (some ⟨x.g, 8, none⟩)
  | 7, v, _ => v = .pointer (some ⟨z.g, 0, none⟩)
  | 8, v, _ => v = .pointer (some ⟨x.g, 0, none⟩)
  | 9, v, _ => v = .pointer (some ⟨x.g, 0, none⟩)
  | 10, v, _ => v = .pointer (some ⟨y.g, 0, none⟩)
  | 11, v, _ => v = .pointer (some ⟨y.g, 8, none⟩)
  | 13, v, _ => v = .pointer (some ⟨z.g, 0, none⟩)
  | 14, v, _ => v = .pointer (some ⟨z.g, 9, none⟩)
  | _, _, _ => True
def folC (F : Nat → Prop) (w0 : World) (x y z : Lk) (S : List Lk) (N V : Nat → Nat) (d : Nat → Bool) (w : World) : Prop :=
  LB w S (if d 12 = true then updN N y.g x.g else N) (if d 15 = true then updN V z.g x.g else V) ∧ Apart F w0 w
theorem folP_keep {x y z : Lk} {i : Nat} {v : Value} {w w' : World} (h : folP x y z i v w) : folP x y z i v w' := by
  unfold folP at *
  split <;> simp_all
theorem folC_step {F : Nat → Prop} {w0 : World} {x y z : Lk} {S : List Lk} {N V : Nat → Nat} (hy : F y.g) (hz : F z.g) (i : Nat) (d : Nat → Bool) (w w' : World) (hd : d i = false) (hC : folC F w0 x y z S N V d w) (hr : folR x y z i w w') : folC F w0 x y z S N V (fun j => if j = i then true else d j) w' := by
  unfold folR at hr
  split at hr
  · subst hr
    refine ⟨?_, hC.2.setCell (p := ⟨y.g, 8, none⟩) (.inl hy) _⟩
    have := hC.1.setN y.g x.g
    rw [hd] at this
    simpa using this
  · subst hr
    refine ⟨?_, hC.2.setCell (p := ⟨z.g, 9, none⟩) (.inl hz) _⟩
    have := hC.1.setV z.g x.g
    rw [hd] at this
    simpa using this
  · rename_i h12 h15
    subst hr
    have e1 : ¬ 12 = i := fun e => h12 e.symm
    have e2 : ¬ 15 = i := fun e => h15 e.symm
    unfold folC
    simp only [e1, e2, if_false]
    exact hC
theorem fol9 {F : Nat → Prop} {w0 w : World} {x y z : Lk} {S : List Lk} {N V : Nat → Nat} {d : Nat → Bool} {b : Nat} (h : folC F w0 x y z (x :: S) N (updN V x.g b) d w) (hn : x.g ≠ z.g) : w.cell? ⟨x.g, 9, none⟩ = some (.pointer (some ⟨b, 0, none⟩)) := by
  have := (h.1.cells (x := x) (by simp)).2.2.2.2.2.2.2.2.2
  rw [this]
  split
  · rw [updN_ne hn, updN_same]
  · rw [updN_same]
theorem fol8 {F : Nat → Prop} {w0 w : World} {x y z : Lk} {S : List Lk} {N V : Nat → Nat} {d : Nat → Bool} {b : Nat} (h : folC F w0 x y z (x :: S) (updN N x.g b) V d w) (hn : y.g ≠ x.g) : w.cell? ⟨x.g, 8, none⟩ = some (.pointer (some ⟨b, 0, none⟩)) := by
  have := (h.1.cells (x := x) (by simp)).2.2.2.2.2.2.2.2.1
  rw [this]
  split
  · rw [updN_ne hn.symm, updN_same]
  · rw [updN_same]
section
variable {w : World} {S : List Lk} {N V : Nat → Nat}
set_option maxRecDepth 100000 in
set_option maxHeartbeats 4000000 in
theorem follow_c (x y z : Lk) (p8 p9 : Value) (h : LB w S N V) (hx : Blk w x.g 107 #[.int .i64 x.k.a, .int .i64 x.k.b, .int .i64 x.k.c, .int .u32 x.d.al, .int .u32 x.d.aa, .int .u32 x.d.ad, .bool x.d.pm, .int .i64 x.d.sq, p8, p9]) (hn : ∀ u ∈ S, u.g ≠ x.g) (hy : y ∈ S) (hz : z ∈ S) (ez : N y.g = z.g) :
    Calls Try.prog 77 #[.pointer (some ⟨x.g, 0, none⟩), .pointer (some ⟨y.g, 0, none⟩)] w fun e w' => e = .returned (.tuple #[]) ∧ LB w' (x :: S) (updN (updN N x.g z.g) y.g x.g) (updN (updN V x.g y.g) z.g x.g) ∧ Apart (fun k => k = x.g ∨ ∃ x ∈ S, x.g = k) w w' := by
  have b8 := hx.cell 8
  have b9 := hx.cell 9
  have g8 := hx.frozen 8
  have g9 := hx.frozen 9
  simp only [List.getElem?_toArray, List.getElem?_cons_succ, List.getElem?_cons_zero] at b8 b9
  have y8 := (h.cells hy).2.2.2.2.2.2.2.2.1
  rw [ez] at y8
  have hyx : y.g ≠ x.g := hn y hy
  have HL1 : Hid (LB ((w.setCell ⟨x.g, 9, none⟩ (.pointer (some ⟨y.g, 0, none⟩))).setCell ⟨x.g, 8, none⟩ (.pointer (some ⟨z.g, 0, none⟩))) (x :: S) (updN N x.g z.g) (updN V x.g y.g)) := Lib.hid (by
    intro u hu
    rcases List.mem_cons.1 hu with rfl | hu
    · have := (hx.set 9 (.pointer (some ⟨y.g, 0, none⟩))).set 8 (.pointer (some ⟨z.g, 0, none⟩))
      unfold cellsL
      rw [updN_same, updN_same]
      simpa using this
    · have := ((h u hu).far (p := ⟨x.g, 9, none⟩) (hn u hu) (.pointer (some ⟨y.g, 0, none⟩))).far (p := ⟨x.g, 8, none⟩) (hn u hu) (.pointer (some ⟨z.g, 0, none⟩))
      have e2 : cellsL u (updN N x.g z.g) (updN V x.g y.g) = cellsL u N V := by unfold cellsL; rw [updN_ne (hn u hu), updN_ne (hn u hu)]
      rw [e2]
      exact this)
  have HA1 : Hid (Apart (fun k => k = x.g ∨ ∃ x ∈ S, x.g = k) w ((w.setCell ⟨x.g, 9, none⟩ (.pointer (some ⟨y.g, 0, none⟩))).setCell ⟨x.g, 8, none⟩ (.pointer (some ⟨z.g, 0, none⟩)))) := Lib.hid ((Apart.refl.setCell (p := ⟨x.g, 9, none⟩) (.inl (.inl rfl)) _).setCell (p := ⟨x.g, 8, none⟩) (.inl (.inl rfl)) _)
  go_enter Try.func77, Try.ntmps77
  go_upto_region 1 with fail
  generalize (w.setCell ⟨x.g, 9, none⟩ (.pointer (some ⟨y.g, 0, none⟩))).setCell ⟨x.g, 8, none⟩ (.pointer (some ⟨z.g, 0, none⟩)) = W1 at *
  clear b8 b9 g8 g9 y8 hx
  have hxS : x ∈ x :: S := by simp
  have hyS : y ∈ x :: S := by simp [hy]
  have hzS : z ∈ x :: S := by simp [hz]
  have hxz : x.g ≠ z.g := (hn z hz).symm
  refine wp_region_gen (folC (fun k => k = x.g ∨ ∃ x ∈ S, x.g = k) w x y z (x :: S) (updN N x.g z.g) (updN V x.g y.g)) (folR x y z) (folP x y z) (by kernel_rfl) (by kernel_rfl) ⟨HL1.out.drew, HA1.out.drew⟩ (folC_step (.inr ⟨y, hy, rfl⟩) (.inr ⟨z, hz, rfl⟩)) [] (by kernel_rfl) (fun _ _ _ _ _ _ _ h _ => folP_keep h) ?_ ?_
  · skip
    refine ⟨⟨trivial, fun A v d hd hC hF hW K Q hk => ?_⟩, ⟨trivial, fun A v d hd hC hF hW K Q hk => ?_⟩, ⟨trivial, fun A v d hd hC hF hW K Q hk => ?_⟩, ⟨trivial, fun A v d hd hC hF hW K Q hk => ?_⟩, ⟨trivial, fun A v d hd hC hF hW K Q hk => ?_⟩, ⟨trivial, fun A v d hd hC hF hW K Q hk => ?_⟩, ⟨trivial, fun A v d hd hC hF hW K Q hk => ?_⟩, ⟨trivial, fun A v d hd hC hF hW K Q hk => ?_⟩, ⟨trivial, fun A v d hd hC hF hW K Q hk => ?_⟩, ⟨trivial, fun A v d hd hC hF hW K Q hk => ?_⟩, ⟨trivial, fun A v d hd hC hF hW K Q hk => ?_⟩, ⟨trivial, fun A v d hd hC hF hW K Q hk => ?_⟩, ⟨trivial, fun A v d hd hC hF hW K Q hk => ?_⟩, ⟨trivial, fun A v d hd hC hF hW K Q hk => ?_⟩, ⟨trivial, fun A v d hd hC hF hW K Q hk => ?_⟩, ⟨trivial, fun A v d hd hC hF hW K Q hk => ?_⟩, trivial⟩
    · have f0 : A.tmps[0]?.getD undef = .pointer (some ⟨x.g, 0, none⟩) := fg_none (hF 0) (by kernel_rfl)
      refine Giv.wp ?_ hk
      unfold Giv
      go_simp
      exact giv_val rfl rfl
    · have f15 : A.tmps[15]?.getD undef = .pointer (some ⟨x.g, 0, none⟩) := fg_some (hF 15) (j := 0) (by kernel_rfl) (by kernel_rfl)
      refine Giv.wp ?_ hk
      unfold Giv
      go_simp
      exact giv_val rfl rfl
    · have f16 : A.tmps[16]?.getD undef = .pointer (some ⟨x.g, 0, none⟩) := fg_some (hF 16) (j := 1) (by kernel_rfl) (by kernel_rfl)
      refine Giv.wp ?_ hk
      unfold Giv
      go_simp
      exact giv_val rfl rfl
    · have f17 : A.tmps[17]?.getD undef = .pointer (some ⟨x.g, 9, none⟩) := fg_some (hF 17) (j := 2) (by kernel_rfl) (by kernel_rfl)
      have c9 := fol9 hC hxz
      refine Giv.wp ?_ hk
      unfold Giv
      go_simp
      exact giv_val rfl rfl
    · have f0 : A.tmps[0]?.getD undef = .pointer (some ⟨x.g, 0, none⟩) := fg_none (hF 0) (by kernel_rfl)
      refine Giv.wp ?_ hk
      unfold Giv
      go_simp
      exact giv_val rfl rfl
    · have f19 : A.tmps[19]?.getD undef = .pointer (some ⟨x.g, 0, none⟩) := fg_some (hF 19) (j := 4) (by kernel_rfl) (by kernel_rfl)
      refine Giv.wp ?_ hk
      unfold Giv
      go_simp
      exact giv_val rfl rfl
    · have f20 : A.tmps[20]?.getD undef = .pointer (some ⟨x.g, 0, none⟩) := fg_some (hF 20) (j := 5) (by kernel_rfl) (by kernel_rfl)
      refine Giv.wp ?_ hk
      unfold Giv
      go_simp
      exact giv_val rfl rfl
    · have f21 : A.tmps[21]?.getD undef = .pointer (some ⟨x.g, 8, none⟩) := fg_some (hF 21) (j := 6) (by kernel_rfl) (by kernel_rfl)
      have c8 := fol8 hC hyx
      refine Giv.wp ?_ hk
      unfold Giv
      go_simp
      exact giv_val rfl rfl
    · have f0 : A.tmps[0]?.getD undef = .pointer (some ⟨x.g, 0, none⟩) := fg_none (hF 0) (by kernel_rfl)
      refine Giv.wp ?_ hk
      unfold Giv
      go_simp
      exact giv_val rfl rfl
    · have f0 : A.tmps[0]?.getD undef = .pointer (some ⟨x.g, 0, none⟩) := fg_none (hF 0) (by kernel_rfl)
      refine Giv.wp ?_ hk
      unfold Giv
      go_simp
      exact giv_val rfl rfl
    · have f18 : A.tmps[18]?.getD undef = .pointer (some ⟨y.g, 0, none⟩) := fg_some (hF 18) (j := 3) (by kernel_rfl) (by kernel_rfl)
      refine Giv.wp ?_ hk
      unfold Giv
      go_simp
      exact giv_val rfl rfl
    · have f25 : A.tmps[25]?.getD undef = .pointer (some ⟨y.g, 0, none⟩) := fg_some (hF 25) (j := 10) (by kernel_rfl) (by kernel_rfl)
      refine Giv.wp ?_ hk
      unfold Giv
      go_simp
      exact giv_val rfl rfl
    · have f26 : A.tmps[26]?.getD undef = .pointer (some ⟨y.g, 8, none⟩) := fg_some (hF 26) (j := 11) (by kernel_rfl) (by kernel_rfl)
      have f23 : A.tmps[23]?.getD undef = .pointer (some ⟨x.g, 0, none⟩) := fg_some (hF 23) (j := 8) (by kernel_rfl) (by kernel_rfl)
      have c8 := (hC.1.cells hyS).2.2.2.2.2.2.2.2.1
      have fz := hC.1.frozen hyS 8
      refine Giv.wp ?_ hk
      unfold Giv
      go_simp
      exact giv_val (P := Try.prog) rfl trivial
    · have f22 : A.tmps[22]?.getD undef = .pointer (some ⟨z.g, 0, none⟩) := fg_some (hF 22) (j := 7) (by kernel_rfl) (by kernel_rfl)
      refine Giv.wp ?_ hk
      unfold Giv
      go_simp
      exact giv_val rfl rfl
    · have f27 : A.tmps[27]?.getD undef = .pointer (some ⟨z.g, 0, none⟩) := fg_some (hF 27) (j := 13) (by kernel_rfl) (by kernel_rfl)
      refine Giv.wp ?_ hk
      unfold Giv
      go_simp
      exact giv_val rfl rfl
    · have f28 : A.tmps[28]?.getD undef = .pointer (some ⟨z.g, 9, none⟩) := fg_some (hF 28) (j := 14) (by kernel_rfl) (by kernel_rfl)
      have f24 : A.tmps[24]?.getD undef = .pointer (some ⟨x.g, 0, none⟩) := fg_some (hF 24) (j := 9) (by kernel_rfl) (by kernel_rfl)
      have c9 := (hC.1.cells hzS).2.2.2.2.2.2.2.2.2
      have fz := hC.1.frozen hzS 9
      refine Giv.wp ?_ hk
      unfold Giv
      go_simp
      exact giv_val (P := Try.prog) rfl trivial
  · intro a W2 d hall hC _ hdf _ _
    have h12 := hall 12 (by decide)
    have h15 := hall 15 (by decide)
    have h1 := hC.1
    rw [h12, h15] at h1
    exact bodyPost_end (v := .tuple #[]) (by simp [results, Try.results77, go_sem]) hdf ⟨rfl, h1, hC.2⟩
end
theorem ring_follow {w : World} {r : Nat} {S : List Lk} (x : Lk) (p8 p9 : Value) (h : RingW w r S) (hx : Blk w x.g 107 #[.int .i64 x.k.a, .int .i64 x.k.b, .int .i64 x.k.c, .int .u32 x.d.al, .int .u32 x.d.aa, .int .u32 x.d.ad, .bool x.d.pm, .int .i64 x.d.sq, p8, p9]) (hx0 : x.g ∉ r :: S.map Lk.g) (hn : (r :: S.map Lk.g).Nodup) :
    Calls Try.prog 77 #[.pointer (some ⟨x.g, 0, none⟩), .pointer (some ⟨r, 0, none⟩)] w fun e w' => e = .returned (.tuple #[]) ∧ RingW w' r (x :: S) ∧ Apart (Rg r (x :: S)) w w' := by
  obtain ⟨N, V, hL, hc⟩ := h
  obtain ⟨hd1, ht1⟩ := ring_nodup hn
  obtain ⟨n, Y, hY⟩ := has_first (S.map Lk.g) r
  have e1 : r :: S.map Lk.g ++ [r] = r :: n :: Y := by rw [List.cons_append, hY]
  rw [e1] at hc hd1 ht1
  have hnm : n ∈ r :: S.map Lk.g := by
    have : n ∈ S.map Lk.g ++ [r] := by rw [hY]; simp
    simp only [List.mem_append, List.mem_singleton] at this
    simp only [List.mem_cons]
    exact this.symm
  have hxl : x.g ∉ r :: n :: Y := by
    rw [← e1]
    intro hm
    rcases List.mem_append.1 hm with hm | hm
    · exact hx0 hm
    · simp only [List.mem_singleton] at hm
      exact hx0 (by simp [hm])
  obtain ⟨z, hz, rfl⟩ := mem_hd hnm
  have hxS : ∀ u ∈ hd r :: S, u.g ≠ x.g := by
    intro u hu e
    refine hx0 ?_
    rw [← e]
    rcases List.mem_cons.1 hu with rfl | hu
    · simp [hd]
    · exact List.mem_cons_of_mem _ (List.mem_map_of_mem hu)
  refine (follow_c x (hd r) z p8 p9 hL hx hxS (by simp) hz hc.1).mono ?_
  rintro e w' ⟨rfl, h1, h2⟩
  refine ⟨rfl, ⟨_, _, h1.sub ?_, ?_⟩, h2.more ?_⟩
  · intro u hu
    simp only [List.mem_cons] at hu ⊢
    rcases hu with h | h | h
    · exact .inr (.inl h)
    · exact .inl h
    · exact .inr (.inr h)
  · have e3 : r :: (x :: S).map Lk.g ++ [r] = r :: x.g :: (S.map Lk.g ++ [r]) := by simp
    rw [e3, hY]
    exact chn_follow hc hxl hd1 ht1
  · rintro k (rfl | ⟨u, hu, rfl⟩)
    · exact .inr ⟨x, by simp, rfl⟩
    · rcases List.mem_cons.1 hu with rfl | hu
      · exact .inl rfl
      · exact .inr ⟨u, by simp [hu], rfl⟩
end Go.Proofs.Ytbcbhgclgakljaa
