/- The law CacheModel walked. -/
import Derived.Test.YtbcbhgclgakljaaKep
namespace Go.Proofs.Ytbcbhgclgakljaa
open Go.RowKit Go.Maps Go.WideElems Go.WideShapes
/-! the region in which both go one step: its results, the reference's state stored -/
structure qC (w0 W : World) (B c m g : Nat) (s s2 : CS) (vk vd : Value) (d : Nat → Bool) (w : World) : Prop where
  sz : W.heap.size ≤ w.heap.size
  a0 : d 6 = false → At w0 w (fun _ => False) c m s ∧ OS w B s vk vd
  a1 : d 6 = true → At w0 w (fun _ => False) c (m + 1) s2
  z : d 10 = false → Blk w g 29 (stA s vk vd)
  y : d 10 = true → ∃ a k e b l f, Blk w g 29 (stA s2 (.slice a k e) (.slice b l f)) ∧ OS w B s2 (.slice a k e) (.slice b l f)
def qR (w0 : World) (B c m g : Nat) (s2 : CS) (i : Nat) (w w' : World) : Prop :=
  if i = 6 then At w0 w' (fun _ => False) c (m + 1) s2 ∧ StT w w'
  else if i = 10 then ∃ a k e b l f, (∃ a0 a1 a2 a3 a4 a5 a6 a7, Blk w g 29 #[a0, a1, a2, a3, a4, a5, a6, a7]) ∧ OS w B s2 (.slice a k e) (.slice b l f) ∧ w' = st8 w g s2 (.slice a k e) (.slice b l f)
  else w' = w
def qP (B : Nat) (s2 : CS) (val : Nat → Option Value) (i : Nat) (u : Value) (w : World) : Prop :=
  if i = 6 ∨ i = 7 then ∃ ao bo n cap m cbp, u = .tuple #[.agg (stA s2 (.slice ao n cap) (.slice bo m cbp)), .bool true] ∧ OS w B s2 (.slice ao n cap) (.slice bo m cbp)
  else if i = 8 then ∃ ao bo n cap m cbp, u = .agg (stA s2 (.slice ao n cap) (.slice bo m cbp)) ∧ OS w B s2 (.slice ao n cap) (.slice bo m cbp)
  else ∀ y, val i = some y → u = y
section
variable {w0 W w w' : World} {B c m g i j : Nat} {s s2 : CS} {vk vd u y : Value} {val : Nat → Option Value}
theorem qC_step (hg : w0.heap.size ≤ g) (i : Nat) (d : Nat → Bool) (w w' : World) (hd : d i = false) (hC : qC w0 W B c m g s s2 vk vd d w) (hr : qR w0 B c m g s2 i w w') : qC w0 W B c m g s s2 vk vd (fun j => if j = i then true else d j) w' := by
  unfold qR at hr
  split at hr
  · rename_i e
    subst e
    refine ⟨Nat.le_trans hC.sz hr.2.sz, fun h => by simp at h, fun _ => hr.1, fun h => hr.2.k _ _ _ oth_st (hC.z h), fun h => ?_⟩
    obtain ⟨a, k, e, b, l, f, h1, h2⟩ := hC.y h
    exact ⟨a, k, e, b, l, f, hr.2.k _ _ _ oth_st h1, h2.st hr.2⟩
  · rename_i e6
    have n6 : ¬ (6 : Nat) = i := fun h => e6 h.symm
    split at hr
    · rename_i e
      subst e
      obtain ⟨a, k, e, b, l, f, ⟨_, _, _, _, _, _, _, _, hb⟩, ho, rfl⟩ := hr
      have ha := apart_set8 w g (.int .i64 s2.size) (.int .i64 s2.seq) (.slice a k e) (.slice b l f) (.int .i64 s2.hits) (.int .i64 s2.misses) (.int .i64 s2.evicted) (.int .i64 s2.resets)
      refine ⟨Nat.le_trans hC.sz ha.size, fun h => ?_, fun h => ?_, fun h => by simp at h, fun _ => ⟨a, k, e, b, l, f, hb.set8 _ _ _ _ _ _ _ _, ho.far hb ha⟩⟩
      · have := hC.a0 (by simpa using h)
        exact ⟨this.1.far oth_st hb hg ha, this.2.far hb ha⟩
      · exact (hC.a1 (by simpa using h)).far oth_st hb hg ha
    · rename_i e10
      have n10 : ¬ (10 : Nat) = i := fun h => e10 h.symm
      subst hr
      exact ⟨hC.sz, fun h => hC.a0 (by simpa [n6] using h), fun h => hC.a1 (by simpa [n6] using h), fun h => hC.z (by simpa [n10] using h), fun h => hC.y (by simpa [n10] using h)⟩
theorem qC.b {d : Nat → Bool} (h : qC w0 W B c m g s s2 vk vd d w) : Below w0.heap.size w0 w := by
  cases hd : d 6 with
  | false => exact (h.a0 hd).1.b
  | true => exact (h.a1 hd).b
theorem qR_os (h : OS w B s2 vk vd) (hr : qR w0 B c m g s2 j w w') : OS w' B s2 vk vd := by
  unfold qR at hr
  split at hr
  · exact h.st hr.2
  · split at hr
    · obtain ⟨_, _, _, _, _, _, ⟨_, _, _, _, _, _, _, _, hb⟩, _, rfl⟩ := hr
      exact h.far hb (apart_set8 w g _ _ _ _ _ _ _ _)
    · subst hr; exact h
theorem qP_keep (h : qP B s2 val i u w) (hr : qR w0 B c m g s2 j w w') : qP B s2 val i u w' := by
  unfold qP at h ⊢
  split
  · rename_i e
    rw [if_pos e] at h
    obtain ⟨_, _, _, _, _, _, h1, h2⟩ := h
    exact ⟨_, _, _, _, _, _, h1, qR_os h2 hr⟩
  · rename_i e
    rw [if_neg e] at h
    split
    · rename_i e
      rw [if_pos e] at h
      obtain ⟨_, _, _, _, _, _, h1, h2⟩ := h
      exact ⟨_, _, _, _, _, _, h1, qR_os h2 hr⟩
    · rename_i e
      rwa [if_neg e] at h
theorem qP_val (h : qP B s2 val i u w) (h1 : ¬ (i = 6 ∨ i = 7)) (h2 : i ≠ 8) (hy : val i = some y) : u = y := by
  unfold qP at h
  rw [if_neg h1, if_neg h2] at h
  exact h y hy
theorem qP_mk (h1 : ¬ (i = 6 ∨ i = 7)) (h2 : i ≠ 8) (hy : val i = some u) : qP B s2 val i u w := by
  unfold qP
  rw [if_neg h1, if_neg h2]
  intro y hz
  rw [hy] at hz
  simpa using hz
theorem qP_mkN (h1 : ¬ (i = 6 ∨ i = 7)) (h2 : i ≠ 8) (hy : val i = none) : qP B s2 val i u w := by
  unfold qP
  rw [if_neg h1, if_neg h2]
  intro y hz
  rw [hy] at hz
  cases hz
theorem qP_two (h : i = 6 ∨ i = 7) {ao bo : Option Addr} {n cap m cbp : Nat} (ho : OS w B s2 (.slice ao n cap) (.slice bo m cbp)) : qP B s2 val i (.tuple #[.agg (stA s2 (.slice ao n cap) (.slice bo m cbp)), .bool true]) w := by
  unfold qP
  rw [if_pos h]
  exact ⟨_, _, _, _, _, _, rfl, ho⟩
theorem qP_two' (hi : i = 6 ∨ i = 7) (h : qP B s2 val i u w) : ∃ ao bo n cap m cbp, u = .tuple #[.agg (stA s2 (.slice ao n cap) (.slice bo m cbp)), .bool true] ∧ OS w B s2 (.slice ao n cap) (.slice bo m cbp) := by
  unfold qP at h
  rwa [if_pos hi] at h
theorem qP_st (h : qP B s2 val 8 u w) : ∃ ao bo n cap m cbp, u = .agg (stA s2 (.slice ao n cap) (.slice bo m cbp)) ∧ OS w B s2 (.slice ao n cap) (.slice bo m cbp) := by
  unfold qP at h
  rwa [if_neg (by decide), if_pos rfl] at h
theorem qR_rfl (h1 : i ≠ 6) (h2 : i ≠ 10) : qR w0 B c m g s2 i w w := by
  unfold qR
  rw [if_neg h1, if_neg h2]
end
def qlV (s : CS) (x : Opr) (ak ad : Option Addr) (nk ck nd cd g o n capl i c : Nat) : Nat → Option Value
  | 0 => some (.pointer (some ⟨c, 0, none⟩))
  | 1 => some (.agg #[.int .i64 s.size, .int .i64 s.seq, .slice ak nk ck, .slice ad nd cd, .int .i64 s.hits, .int .i64 s.misses, .int .i64 s.evicted, .int .i64 s.resets])
  | 2 => some (.slice (some ⟨g, o, none⟩) n capl)
  | 3 => some (.int .i64 i)
  | 4 => some (.pointer (some ⟨g, o + i * 6, none⟩))
  | 5 => some (.agg #[.int .u8 x.kind, .int .i64 x.k.a, .int .i64 x.k.b, .int .i64 x.k.c, .int .u32 x.al, .int .i64 x.sq])
  | 9 => some (.bool true)
  | 11 => some (.bool true)
  | _ => none
theorem eqNN (w : World) : (binOp .eql 24 (.pointer none) (.pointer none)).run Try.prog w = .ok (.bool true) w := by kernel_rfl
set_option maxRecDepth 100000 in
set_option maxHeartbeats 8000000 in
theorem rfirst_z (k : Int) (w : World) (h : k < 1 ∨ 1024 < k) : Calls Try.prog 11 #[.int .i64 k] w fun e w' => e = .returned (.tuple #[.agg #[.int .i64 0, .int .i64 0, .slice none 0 0, .slice none 0 0, .int .i64 0, .int .i64 0, .int .i64 0, .int .i64 0], .bool false]) ∧ Below w.heap.size w w' := by
  by_cases h3 : k < 1
  all_goals
    first
    | (have h4 : 1024 < k := by omega)
    | skip
    go_enter Try.func11, Try.ntmps11
    go_wp2_with fail
    obtain ⟨c0, c1, c2, c3, c4, c5, c6, c7⟩ := (Blk.new w 29 #[.int .i64 0, .int .i64 0, .slice none 0 0, .slice none 0 0, .int .i64 0, .int .i64 0, .int .i64 0, .int .i64 0]).cells8
    have hb : Below w.heap.size w (w.alloc (.cells #[.int .i64 0, .int .i64 0, .slice none 0 0, .slice none 0 0, .int .i64 0, .int .i64 0, .int .i64 0, .int .i64 0] 29)) := (Below.refl _ _).alloc (Nat.le_refl _) _
    generalize w.alloc (.cells #[.int .i64 0, .int .i64 0, .slice none 0 0, .slice none 0 0, .int .i64 0, .int .i64 0, .int .i64 0, .int .i64 0] 29) = W at *
    generalize hgx : w.heap.size = gx at *
    refine bodyPost_ret (v := .tuple #[.agg #[.int .i64 0, .int .i64 0, .slice none 0 0, .slice none 0 0, .int .i64 0, .int .i64 0, .int .i64 0, .int .i64 0], .bool false]) (by simp [results, Try.results11, go_sem, c0, c1, c2, c3, c4, c5, c6, c7]) rfl ?_
    have hb2 : Below w.heap.size w W := by first | exact hb | (rw [hgx]; exact hb)
    first | exact ⟨rfl, hb⟩ | exact ⟨rfl, hb2⟩
set_option maxRecDepth 100000 in
set_option maxHeartbeats 16000000 in
theorem model_c (size : Int) (l : List Opr) (vl : Value) (w : World) (hP : Rows' RO w vl l) (hW : ∀ x ∈ l, WO x) (hl : l.length ≤ maxLen) :
    Calls Try.prog 3 #[.int .i64 size, vl] w fun e w' => e = .returned (.bool true) ∧ Below w.heap.size w w' := by
  obtain ⟨aol, capl, rfl, hcl, _⟩ := id hP.form
  unfold maxLen at hl
  by_cases h60 : 60 < l.length
  · have h3 : (60 : Int) < (l.length : Int) := by omega
    go_enter Try.func3, Try.ntmps3
    go_wp2_with (go_at_call 9; refine (awake_c _).mono ?_; rintro e w8 ⟨rfl, hb8⟩)
    go_ret
    exact ⟨rfl, hb8⟩
  have hl60 : l.length ≤ 60 := by omega
  have h3 : ¬ (60 : Int) < (l.length : Int) := by omega
  by_cases hout : size < 1 ∨ 1024 < size
  · have HO := Lib.hid hout
    have HN := Lib.hid (new_out size w hout)
    have hqn := fun (u : World) => eqNN u
    clear hP hW hl hout h60
    go_enter Try.func3, Try.ntmps3
    go_upto_region 4 with (first | (go_at_call 10; refine HN.out.mono ?_; rintro e w1 ⟨rfl, rfl⟩) | fail)
    go_upto_region 5 with (first | (go_at_call 11; refine (rfirst_z size _ HO.out).mono ?_; rintro e w2 ⟨rfl, hb2⟩; have HB2 := Lib.hid hb2; clear hb2) | fail)
    have HB3 : Hid (Below w1.heap.size w1 (w2.alloc (.cells #[.int .i64 0, .int .i64 0, .slice none 0 0, .slice none 0 0, .int .i64 0, .int .i64 0, .int .i64 0, .int .i64 0] 29))) := Lib.hid (HB2.out.alloc HB2.out.size _)
    generalize w2.alloc (.cells #[.int .i64 0, .int .i64 0, .slice none 0 0, .slice none 0 0, .int .i64 0, .int .i64 0, .int .i64 0, .int .i64 0] 29) = w3 at *
    generalize w2.heap.size = g6 at *
    go_wp2_with (go_at_call 9; refine (awake_c _).mono ?_; rintro e w8 ⟨rfl, hb8⟩)
    go_ret
    exact ⟨rfl, HB3.out.trans (hb8.mono HB3.out.size)⟩
  have h1 : 1 ≤ size := by omega
  have h2 : size ≤ 1024 := by omega
  have HP := Lib.hid hP
  have HWO := Lib.hid hW
  obtain ⟨n, hn⟩ : ∃ n, l.length = n := ⟨_, rfl⟩
  have HN := Lib.hid hn
  have hq := fun (c : Nat) (u : World) => eqPN c u
  rw [hn] at hl60 h3 hcl ⊢
  have HS1 := Lib.hid h1
  have HS2 := Lib.hid h2
  clear hP hW hl hout hn h60 h1 h2
  go_enter Try.func3, Try.ntmps3
  go_upto_region 4 with (first | (go_at_call 10; refine (new_at size _ HS1.out HS2.out).mono ?_; rintro e w1 ⟨c, rfl, h1⟩; have H1 := Lib.hid h1; clear h1; have hq2 := hq c; clear hq) | fail)
  go_upto_region 5 with (first | (go_at_call 11; refine (rfirst_c size _ HS1.out HS2.out).mono ?_; rintro e w2 ⟨rfl, hb2⟩; have HB2 := Lib.hid hb2; clear hb2) | fail)
  have hba : Below w2.heap.size w2 (w2.alloc (.cells #[.int .i64 size, .int .i64 0, .slice none 0 0, .slice none 0 0, .int .i64 0, .int .i64 0, .int .i64 0, .int .i64 0] 29)) := (Below.refl _ _).alloc (Nat.le_refl _) _
  have HA3 := Lib.hid ((H1.out.keep HB2.out).keep hba)
  have HX3 : Hid (Blk (w2.alloc (.cells #[.int .i64 size, .int .i64 0, .slice none 0 0, .slice none 0 0, .int .i64 0, .int .i64 0, .int .i64 0, .int .i64 0] 29)) w2.heap.size 29 (stA (newC size) (.slice none 0 0) (.slice none 0 0))) := Lib.hid (Blk.new w2 29 _)
  have HO3 : Hid (OS (w2.alloc (.cells #[.int .i64 size, .int .i64 0, .slice none 0 0, .slice none 0 0, .int .i64 0, .int .i64 0, .int .i64 0, .int .i64 0] 29)) w.heap.size (newC size) (.slice none 0 0) (.slice none 0 0)) := Lib.hid ⟨Own.nil _ _, Own.nil _ _⟩
  have HG6 : Hid (w.heap.size ≤ w2.heap.size) := Lib.hid (Nat.le_trans H1.out.b.size HB2.out.size)
  clear hba
  generalize w2.alloc (.cells #[.int .i64 size, .int .i64 0, .slice none 0 0, .slice none 0 0, .int .i64 0, .int .i64 0, .int .i64 0, .int .i64 0] 29) = w3 at *
  generalize w2.heap.size = g6 at *
  go_wp2_with fail
  clear hq2
  go_loopw [8] (fun vi wr => ∃ (i : Nat) (s : CS) (ak ad : Option Addr) (nk ck nd cd : Nat), i ≤ n ∧ vi = .int .i64 i ∧ Hid (At w wr (fun _ => False) c i s) ∧ Hid (OS wr w.heap.size s (.slice ak nk ck) (.slice ad nd cd)) ∧ Hid (Blk wr g6 29 (stA s (.slice ak nk ck) (.slice ad nd cd)))) (fun vi _ => n - (intOf vi).toNat)
  case atStart => exact ⟨0, newC size, none, none, 0, 0, 0, 0, Nat.zero_le _, rfl, HA3, HO3, HX3⟩
  case round =>
    obtain ⟨i, s, ak, ad, nk, ck, nd, cd, hi, rfl, HA, HO, HX⟩ := hrel
    by_cases hlt : i < n
    · have hL : l[i]? = some (l[i]'(by rw [HN.out]; exact hlt)) := List.getElem?_eq_getElem _
      have hxm : l[i]'(by rw [HN.out]; exact hlt) ∈ l := List.getElem_mem _
      generalize l[i]'(by rw [HN.out]; exact hlt) = x at hL hxm
      have HWX := Lib.hid (HWO.out x hxm)
      obtain ⟨g, o, cap', e1, _⟩ := HP.out.some6 (by rintro rfl; simp at hL)
      simp only [Value.slice.injEq] at e1
      obtain ⟨rfl, -, rfl⟩ := e1
      have hltI : (i : Int) < (n : Int) := by omega
      have hltC : (i : Int) < (capl : Int) := by omega
      have HROW : Hid (∀ u, Below w.heap.size w u → _) := Lib.hid (fun u hu => (HP.out.below hu).at6 rfl hL)
      have HSTEP : Hid (∀ u, At w u (fun _ => False) c i s → OS u w.heap.size s (.slice ak nk ck) (.slice ad nd cd) → w.heap.size ≤ u.heap.size → Calls Try.prog 12 #[.pointer (some ⟨c, 0, none⟩), .agg #[.int .i64 s.size, .int .i64 s.seq, .slice ak nk ck, .slice ad nd cd, .int .i64 s.hits, .int .i64 s.misses, .int .i64 s.evicted, .int .i64 s.resets], .agg #[.int .u8 x.kind, .int .i64 x.k.a, .int .i64 x.k.b, .int .i64 x.k.c, .int .u32 x.al, .int .i64 x.sq]] u fun e w' => ∃ vk' vd', e = .returned (.tuple #[.agg #[.int .i64 (doC s x).size, .int .i64 (doC s x).seq, vk', vd', .int .i64 (doC s x).hits, .int .i64 (doC s x).misses, .int .i64 (doC s x).evicted, .int .i64 (doC s x).resets], .bool true]) ∧ At w w' (fun _ => False) c (i + 1) (doC s x) ∧ OS w' w.heap.size (doC s x) vk' vd' ∧ StT u w') := Lib.hid (fun u ha ho hb => step_c x ha ho hb (by omega) HWX.out)
      have HWW : Hid (w.heap.size ≤ wr.heap.size) := Lib.hid HA.out.b.size
      generalize doC s x = s2 at *
      clear hL hxm
      go_upto_region 12 with fail
      generalize wr = W3 at *
      refine wp_region_lnw (qC w W3 w.heap.size c i g6 s s2 (.slice ak nk ck) (.slice ad nd cd)) (qR w w.heap.size c i g6 s2) (qP w.heap.size s2 (qlV s x ak ad nk ck nd cd g o n capl i c)) (fun _ => none) (by kernel_rfl) (by kernel_rfl) (by kernel_rfl) ⟨Nat.le_refl _, fun _ => ⟨HA.out.keep (Below.refl _ _).drew, HO.out.below (Below.refl _ _).drew⟩, fun h => (by cases h), fun _ => HX.out.drew, fun h => (by cases h)⟩ (qC_step HG6.out) [] (by kernel_rfl) (fun _ _ _ _ _ _ _ h hr => qP_keep h hr) ?_ ?_
      · skip
        refine ⟨⟨trivial, fun A v d hd hC hF hW K Q hk => ?_⟩, ⟨trivial, fun A v d hd hC hF hW K Q hk => ?_⟩, ⟨trivial, fun A v d hd hC hF hW K Q hk => ?_⟩, ⟨trivial, fun A v d hd hC hF hW K Q hk => ?_⟩, ⟨trivial, fun A v d hd hC hF hW K Q hk => ?_⟩, ⟨trivial, fun A v d hd hC hF hW K Q hk => ?_⟩, ⟨trivial, fun A v d hd hC hF hW K Q hk => ?_⟩, ⟨trivial, fun A v d hd hC hF hW K Q hk => ?_⟩, ⟨trivial, fun A v d hd hC hF hW K Q hk => ?_⟩, ⟨trivial, fun A v d hd hC hF hW K Q hk => ?_⟩, ⟨trivial, fun A v d hd hC hF hW K Q hk => ?_⟩, ⟨trivial, fun A v d hd hC hF hW K Q hk => ?_⟩, trivial⟩
        · obtain ⟨hC, hcl⟩ := hC
          have f5 : A.tmps[5]?.getD undef = .pointer (some ⟨c, 0, none⟩) := fg_none (hF 5) (by kernel_rfl)
          refine Giv.wp (φ := qP w.heap.size s2 (qlV s x ak ad nk ck nd cd g o n capl i c) 0) ?_ hk
          unfold Giv
          go_simp
          exact giv_val (P := Try.prog) (qR_rfl (by decide) (by decide)) (qP_mk (by decide) (by decide) rfl)
        · obtain ⟨hC, hcl⟩ := hC
          have f6 : A.tmps[6]?.getD undef = .pointer (some ⟨g6, 0, none⟩) := fg_none (hF 6) (by kernel_rfl)
          obtain ⟨y0, y1, y2, y3, y4, y5, y6, y7⟩ := Blk.cells8 (show Blk v g6 29 (stA s _ _) from hC.z (hcl.not hd (k := 10) rfl (by kernel_rfl)))
          refine Giv.wp (φ := qP w.heap.size s2 (qlV s x ak ad nk ck nd cd g o n capl i c) 1) ?_ hk
          unfold Giv
          go_simp
          exact giv_val (P := Try.prog) (qR_rfl (by decide) (by decide)) (qP_mk (by decide) (by decide) rfl)
        · obtain ⟨hC, hcl⟩ := hC
          have f1 : A.tmps[1]?.getD undef = .slice (some ⟨g, o, none⟩) n capl := fg_none (hF 1) (by kernel_rfl)
          refine Giv.wp (φ := qP w.heap.size s2 (qlV s x ak ad nk ck nd cd g o n capl i c) 2) ?_ hk
          unfold Giv
          go_simp
          exact giv_val (P := Try.prog) (qR_rfl (by decide) (by decide)) (qP_mk (by decide) (by decide) rfl)
        · obtain ⟨hC, hcl⟩ := hC
          have f8 : A.tmps[8]?.getD undef = .int .i64 i := fg_none (hF 8) (by kernel_rfl)
          refine Giv.wp (φ := qP w.heap.size s2 (qlV s x ak ad nk ck nd cd g o n capl i c) 3) ?_ hk
          unfold Giv
          go_simp
          exact giv_val (P := Try.prog) (qR_rfl (by decide) (by decide)) (qP_mk (by decide) (by decide) rfl)
        · obtain ⟨hC, hcl⟩ := hC
          have f38 : A.tmps[38]?.getD undef = .slice (some ⟨g, o, none⟩) n capl := qP_val (fg_some (hF 38) (j := 2) (by kernel_rfl) (by kernel_rfl)) (by decide) (by decide) rfl
          have f39 : A.tmps[39]?.getD undef = .int .i64 i := qP_val (fg_some (hF 39) (j := 3) (by kernel_rfl) (by kernel_rfl)) (by decide) (by decide) rfl
          refine Giv.wp (φ := qP w.heap.size s2 (qlV s x ak ad nk ck nd cd g o n capl i c) 4) ?_ hk
          unfold Giv
          go_simp
          exact giv_val (P := Try.prog) (qR_rfl (by decide) (by decide)) (qP_mk (by decide) (by decide) rfl)
        · obtain ⟨hC, hcl⟩ := hC
          have f40 : A.tmps[40]?.getD undef = .pointer (some ⟨g, o + i * 6, none⟩) := qP_val (fg_some (hF 40) (j := 4) (by kernel_rfl) (by kernel_rfl)) (by decide) (by decide) rfl
          obtain ⟨-, y0, y1, y2, y3, y4, y5⟩ := HROW.out v hC.b
          refine Giv.wp (φ := qP w.heap.size s2 (qlV s x ak ad nk ck nd cd g o n capl i c) 5) ?_ hk
          unfold Giv
          go_simp
          exact giv_val (P := Try.prog) (qR_rfl (by decide) (by decide)) (qP_mk (by decide) (by decide) rfl)
        · obtain ⟨hC, hcl⟩ := hC
          have f36 : A.tmps[36]?.getD undef = .pointer (some ⟨c, 0, none⟩) := qP_val (fg_some (hF 36) (j := 0) (by kernel_rfl) (by kernel_rfl)) (by decide) (by decide) rfl
          have f37 : A.tmps[37]?.getD undef = .agg #[.int .i64 s.size, .int .i64 s.seq, .slice ak nk ck, .slice ad nd cd, .int .i64 s.hits, .int .i64 s.misses, .int .i64 s.evicted, .int .i64 s.resets] := qP_val (fg_some (hF 37) (j := 1) (by kernel_rfl) (by kernel_rfl)) (by decide) (by decide) rfl
          have f41 : A.tmps[41]?.getD undef = .agg #[.int .u8 x.kind, .int .i64 x.k.a, .int .i64 x.k.b, .int .i64 x.k.c, .int .u32 x.al, .int .i64 x.sq] := qP_val (fg_some (hF 41) (j := 5) (by kernel_rfl) (by kernel_rfl)) (by decide) (by decide) rfl
          refine Giv.wp (φ := qP w.heap.size s2 (qlV s x ak ad nk ck nd cd g o n capl i c) 6) ?_ hk
          unfold Giv
          go_simp
          exact giv_enter (P := Try.prog) ((HSTEP.out v (hC.a0 hd).1 (hC.a0 hd).2 (Nat.le_trans HWW.out hC.sz)).mono fun e w2 ⟨vk, vd, he, h1, h2, h3⟩ => by obtain ⟨a3, b3, c3, e3, rfl, rfl⟩ := h2.sr.forms; exact ⟨_, he, by unfold qR; rw [if_pos rfl]; exact ⟨h1, h3⟩, qP_two (.inl rfl) h2⟩)
        · obtain ⟨hC, hcl⟩ := hC
          obtain ⟨a3, b3, n3, c3, m3, e3, f42, ho⟩ := qP_two' (by decide) (fg_some (hF 42) (j := 6) (by kernel_rfl) (by kernel_rfl))
          simp only [stA] at f42
          refine Giv.wp (φ := qP w.heap.size s2 (qlV s x ak ad nk ck nd cd g o n capl i c) 7) ?_ hk
          unfold Giv
          go_simp
          exact giv_val (P := Try.prog) (qR_rfl (by decide) (by decide)) (qP_two (.inr rfl) ho)
        · obtain ⟨hC, hcl⟩ := hC
          obtain ⟨a3, b3, n3, c3, m3, e3, f35, ho⟩ := qP_two' (by decide) (fg_some (hF 35) (j := 7) (by kernel_rfl) (by kernel_rfl))
          simp only [stA] at f35
          refine Giv.wp (φ := qP w.heap.size s2 (qlV s x ak ad nk ck nd cd g o n capl i c) 8) ?_ hk
          unfold Giv
          go_simp
          exact giv_val (P := Try.prog) (qR_rfl (by decide) (by decide)) (by unfold qP; rw [if_neg (by decide), if_pos rfl]; exact ⟨_, _, _, _, _, _, rfl, ho⟩)
        · obtain ⟨hC, hcl⟩ := hC
          obtain ⟨a3, b3, n3, c3, m3, e3, f35, ho⟩ := qP_two' (by decide) (fg_some (hF 35) (j := 7) (by kernel_rfl) (by kernel_rfl))
          simp only [stA] at f35
          refine Giv.wp (φ := qP w.heap.size s2 (qlV s x ak ad nk ck nd cd g o n capl i c) 9) ?_ hk
          unfold Giv
          go_simp
          exact giv_val (P := Try.prog) (qR_rfl (by decide) (by decide)) (qP_mk (by decide) (by decide) rfl)
        · obtain ⟨hC, hcl⟩ := hC
          have f6 : A.tmps[6]?.getD undef = .pointer (some ⟨g6, 0, none⟩) := fg_none (hF 6) (by kernel_rfl)
          obtain ⟨a3, b3, n3, c3, m3, e3, f43, ho⟩ := qP_st (fg_some (hF 43) (j := 8) (by kernel_rfl) (by kernel_rfl))
          simp only [stA] at f43
          have hz := hC.z hd
          have hz8 : ∃ a0 a1 a2 a3 a4 a5 a6 a7, Blk v g6 29 #[a0, a1, a2, a3, a4, a5, a6, a7] := ⟨_, _, _, _, _, _, _, _, hz⟩
          obtain ⟨z0, z1, z2, z3, z4, z5, z6, z7⟩ := Blk.cells8 (show Blk v g6 29 (stA s _ _) from hz)
          obtain ⟨e0, e1, e2, e3, e4, e5, e6, e7⟩ := hz.fro8
          refine Giv.wp (φ := qP w.heap.size s2 (qlV s x ak ad nk ck nd cd g o n capl i c) 10) ?_ hk
          unfold Giv
          go_simp
          first | exact giv_skip (P := Try.prog) (by unfold qR; rw [if_neg (by decide), if_pos rfl]; exact ⟨_, _, _, _, _, _, hz8, ho, rfl⟩) (qP_mkN (by decide) (by decide) rfl) | exact giv_val (P := Try.prog) (by unfold qR; rw [if_neg (by decide), if_pos rfl]; exact ⟨_, _, _, _, _, _, hz8, ho, rfl⟩) (qP_mkN (by decide) (by decide) rfl)
        · obtain ⟨hC, hcl⟩ := hC
          have f44 : A.tmps[44]?.getD undef = .bool true := qP_val (fg_some (hF 44) (j := 9) (by kernel_rfl) (by kernel_rfl)) (by decide) (by decide) rfl
          refine Giv.wp (φ := qP w.heap.size s2 (qlV s x ak ad nk ck nd cd g o n capl i c) 11) ?_ hk
          unfold Giv
          go_simp
          exact giv_val (P := Try.prog) (qR_rfl (by decide) (by decide)) (qP_mk (by decide) (by decide) rfl)
      · intro a0 W9 d hsd hC hsz hdf hF hL
        have ha := end_gen [false, false, false, false, false, false, false, true, false, false, false, false, false, false, false, false, false, false, false, false, false, false, false, false, false, false, false, false, false, false, false, false, false, false, false, true, true, true, true, true, true, true, true, true, true] hsz hdf hF (by kernel_rfl)
        have f7 : a0.tmps[7]?.getD undef = .bool true := qP_val (fe_some (hF 7) (j := 11) (by kernel_rfl)) (by decide) (by decide) rfl
        have HA9 := Lib.hid (hC.a1 (hsd 6 (by decide)))
        obtain ⟨a9, k9, e9, b9, l9, q9, hx9, ho9⟩ := hC.y (hsd 10 (by decide))
        have HX9 := Lib.hid hx9
        have HO9 := Lib.hid ho9
        rw [ha]
        clear ha hF hL hC hsd hx9 ho9
        simp only [cutM_yes, cutM_no, cutM_nil, Nat.reduceAdd]
        rw [f7]
        clear f7
        generalize a0.tmps[35]?.getD undef = s35
        generalize a0.tmps[36]?.getD undef = s36
        generalize a0.tmps[37]?.getD undef = s37
        generalize a0.tmps[38]?.getD undef = s38
        generalize a0.tmps[39]?.getD undef = s39
        generalize a0.tmps[40]?.getD undef = s40
        generalize a0.tmps[41]?.getD undef = s41
        generalize a0.tmps[42]?.getD undef = s42
        generalize a0.tmps[43]?.getD undef = s43
        generalize a0.tmps[44]?.getD undef = s44
        clear hsz hdf
        obtain ⟨y0, y1, y2, y3, y4, y5, y6, y7⟩ := Blk.cells8 (show Blk W9 g6 29 (stA s2 _ _) from HX9.out)
        go_wp2_with (go_at_call 13; refine (agree_c HA9.out HO9.out).mono ?_; rintro e w10 ⟨rfl, hb10⟩; have HB10 := Lib.hid hb10; clear hb10)
        exact ⟨⟨i + 1, s2, a9, b9, k9, e9, l9, q9, by omega, by go_num, Lib.hid (HA9.out.keep HB10.out), Lib.hid (HO9.out.below HB10.out), Lib.hid (HX9.out.keep HB10.out)⟩, by simp [intOf]; omega⟩
    · obtain rfl : i = n := by omega
      go_wp2_with (go_at_call 9; refine (awake_c _).mono ?_; rintro e w8 ⟨rfl, hb8⟩)
      go_ret
      exact ⟨rfl, HA.out.b.trans (hb8.mono HA.out.b.size)⟩
end Go.Proofs.Ytbcbhgclgakljaa
