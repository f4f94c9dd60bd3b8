/- The law CacheLast walked. -/
import Derived.Test.YtbhoofihnmmmfaaKda
import Derived.Deep.OwnRows
namespace Go.Proofs.Ytbhoofihnmmmfaa
open Go.RowKit Go.Maps Go.WideElems Go.WideShapes
def arrD (D : List Bool) : Array Value := (D.map Value.bool).toArray
theorem arrD_new (n : Nat) : madeCells #[.bool false] n = arrD (List.replicate n false) := by
  apply Array.ext
  · simp [madeCells, arrD]
  · intro i h1 h2
    simp [madeCells, arrD, Nat.mod_one]
theorem arrD_set (D : List Bool) (i : Nat) (b : Bool) : (arrD D).setIfInBounds i (.bool b) = arrD (D.set i b) := by
  unfold arrD
  simp [List.map_set]
theorem cellD {w : World} {g i : Nat} {t : TypeId} {D : List Bool} {b : Bool} (h : Blk w g t (arrD D)) (hb : D[i]? = some b) : w.cell? ⟨g, i, none⟩ = some (.bool b) := by
  rw [h.cell i]
  simp [arrD, hb]
section
variable {L : List En} {l : List Opr} {D : List Bool} {i p m : Nat} {k : K3} {dv : Dc} {y : Opr}
theorem hit_none (h : InvL L l D i) (hm : (k, dv) ∈ L) (HM : ∀ q y, 0 ≤ q → q < i → l[q]? = some y → D[q]? = some true → y.k ≠ k) : False := by
  obtain ⟨m0, x0, h1, h2, h3, h4, h5, h6⟩ := h _ hm
  exact HM m0 x0 (Nat.zero_le _) h1 h3 h2 h4
theorem hit_at (h : InvL L l D i) (hm : (k, dv) ∈ L) (HM : ∀ q y, p + 1 ≤ q → q < i → l[q]? = some y → D[q]? = some true → y.k ≠ k) (hy : l[p]? = some y) (hD : D[p]? = some true) (hk : y.k = k) (hp : p < i) : y.d = dv := by
  obtain ⟨m0, x0, h1, h2, h3, h4, h5, h6⟩ := h _ hm
  rcases Nat.lt_trichotomy m0 p with h7 | h7 | h7
  · exact absurd hk (h6 p y h7 hp hy hD)
  · subst h7
    rw [hy] at h3
    simp only [Option.some.injEq] at h3
    subst h3
    exact h5
  · exact absurd h4 (HM m0 x0 h7 h1 h3 h2)
end
/-- the region that stores whether an insertion has no error -/
structure iC (w0 w1 : World) (c m : Nat) (s s2 : CS) (gD : Nat) (cs cs' : Array Value) (d : Nat → Bool) (w : World) : Prop where
  sz : w1.heap.size ≤ w.heap.size
  at0 : d 23 = false → At w0 w (fun _ => False) c m s
  at1 : d 23 = true → At w0 w (fun _ => False) c (m + 1) s2
  b0 : d 26 = false → Blk w gD 4 cs
  b1 : d 26 = true → Blk w gD 4 cs'
def iR (w0 : World) (c m : Nat) (s2 : CS) (gD b : Nat) (u : Value) (i : Nat) (w w' : World) : Prop :=
  if i = 22 then Below w.heap.size w w'
  else if i = 23 then At w0 w' (fun _ => False) c (m + 1) s2 ∧ StT w w'
  else if i = 26 then w' = w.setCell ⟨gD, b, none⟩ u
  else w' = w
def iP (val : Nat → Option Value) (i : Nat) (u : Value) (_ : World) : Prop := ∀ y, val i = some y → u = y
section
variable {w0 w1 w w' : World} {c m gD b i : Nat} {s s2 : CS} {cs : Array Value} {u : Value}
theorem iC_step (hg : w0.heap.size ≤ gD) (i : Nat) (d : Nat → Bool) (w w' : World) (hd : d i = false) (hC : iC w0 w1 c m s s2 gD cs (cs.setIfInBounds b u) d w) (hr : iR w0 c m s2 gD b u i w w') : iC w0 w1 c m s s2 gD cs (cs.setIfInBounds b u) (fun j => if j = i then true else d j) w' := by
  unfold iR at hr
  split at hr
  · rename_i e
    subst e
    exact ⟨Nat.le_trans hC.sz hr.size, fun h => (hC.at0 h).keep hr, fun h => (hC.at1 h).keep hr, fun h => (hC.b0 h).keep hr, fun h => (hC.b1 h).keep hr⟩
  · split at hr
    · rename_i e
      subst e
      exact ⟨Nat.le_trans hC.sz hr.2.sz, fun h => by simp at h, fun _ => hr.1, fun h => hr.2.k _ _ _ oth_bool (hC.b0 h), fun h => hr.2.k _ _ _ oth_bool (hC.b1 h)⟩
    · rename_i e2
      have n23 : ¬ (23 : Nat) = i := fun h => e2 h.symm
      split at hr
      · rename_i e
        subst e
        subst hr
        have hb := hC.b0 hd
        have ha : Apart (fun k => k = gD) w (w.setCell ⟨gD, b, none⟩ u) := Apart.setCell (F := fun k => k = gD) (p := ⟨gD, b, none⟩) Apart.refl (.inl rfl) _
        exact ⟨Nat.le_trans hC.sz ha.size, fun h => (hC.at0 h).far oth_bool hb hg ha, fun h => (hC.at1 h).far oth_bool hb hg ha, fun h => by simp at h, fun _ => hb.set b u⟩
      · rename_i e3
        have n26 : ¬ (26 : Nat) = i := fun h => e3 h.symm
        subst hr
        refine ⟨hC.sz, fun h => ?_, fun h => ?_, fun h => ?_, fun h => ?_⟩
        · simp only [n23, if_false] at h; exact hC.at0 h
        · simp only [n23, if_false] at h; exact hC.at1 h
        · simp only [n26, if_false] at h; exact hC.b0 h
        · simp only [n26, if_false] at h; exact hC.b1 h
theorem iP_mk {val : Nat → Option Value} (hy : val i = some u) : iP val i u w := by
  intro y hz
  rw [hy] at hz
  simpa using hz
theorem iR_rfl (h1 : i ≠ 22) (h2 : i ≠ 23) (h3 : i ≠ 26) : iR w0 c m s2 gD b u i w w := by
  unfold iR
  rw [if_neg h1, if_neg h2, if_neg h3]
theorem iR_dec (h : Below w.heap.size w w') : iR w0 c m s2 gD b u 22 w w' := by
  unfold iR
  rwa [if_pos rfl]
theorem iR_ins (h : At w0 w' (fun _ => False) c (m + 1) s2) (h2 : StT w w') : iR w0 c m s2 gD b u 23 w w' := by
  unfold iR
  rw [if_neg (by decide), if_pos rfl]
  exact ⟨h, h2⟩
theorem iR_set : iR w0 c m s2 gD b u 26 w (w.setCell ⟨gD, b, none⟩ u) := by
  unfold iR
  rw [if_neg (by decide), if_neg (by decide), if_pos rfl]
end
def insV (c g o n capl gD i : Nat) (x : Opr) (er : Int) : Nat → Option Value
  | 0 => some (.slice (some ⟨gD, 0, none⟩) n n)
  | 1 => some (.int .i64 i)
  | 2 => some (.pointer (some ⟨c, 0, none⟩))
  | 3 => some (.slice (some ⟨g, o, none⟩) n capl)
  | 4 => some (.int .i64 i)
  | 5 => some (.pointer (some ⟨g, o + i * 6, none⟩))
  | 6 => some (.pointer (some ⟨g, o + i * 6 + 1, none⟩))
  | 7 => some (.int .i64 x.k.a)
  | 8 => some (.slice (some ⟨g, o, none⟩) n capl)
  | 9 => some (.int .i64 i)
  | 10 => some (.pointer (some ⟨g, o + i * 6, none⟩))
  | 11 => some (.pointer (some ⟨g, o + i * 6 + 2, none⟩))
  | 12 => some (.int .i64 x.k.b)
  | 13 => some (.slice (some ⟨g, o, none⟩) n capl)
  | 14 => some (.int .i64 i)
  | 15 => some (.pointer (some ⟨g, o + i * 6, none⟩))
  | 16 => some (.pointer (some ⟨g, o + i * 6 + 3, none⟩))
  | 17 => some (.int .i64 x.k.c)
  | 18 => some (.slice (some ⟨g, o, none⟩) n capl)
  | 19 => some (.int .i64 i)
  | 20 => some (.pointer (some ⟨g, o + i * 6, none⟩))
  | 21 => some (.agg #[.int .u8 x.kind, .int .i64 x.k.a, .int .i64 x.k.b, .int .i64 x.k.c, .int .u32 x.al, .int .i64 x.sq])
  | 22 => some (.agg #[.int .u32 x.al, .int .u32 0, .int .u32 0, .bool false, .int .i64 x.sq])
  | 23 => some (.int .i64 er)
  | 24 => some (.bool (er == 0))
  | 25 => some (.pointer (some ⟨gD, i, none⟩))
  | _ => none
def lsV (c g o n capl i : Nat) (x : Opr) (dv : Dc) (ok : Bool) : Nat → Option Value
  | 0 => some (.pointer (some ⟨c, 0, none⟩))
  | 2 => some (.slice (some ⟨g, o, none⟩) n capl)
  | 3 => some (.int .i64 i)
  | 4 => some (.pointer (some ⟨g, o + i * 6, none⟩))
  | 5 => some (.pointer (some ⟨g, o + i * 6 + 1, none⟩))
  | 6 => some (.int .i64 x.k.a)
  | 7 => some (.slice (some ⟨g, o, none⟩) n capl)
  | 8 => some (.int .i64 i)
  | 9 => some (.pointer (some ⟨g, o + i * 6, none⟩))
  | 10 => some (.pointer (some ⟨g, o + i * 6 + 2, none⟩))
  | 11 => some (.int .i64 x.k.b)
  | 12 => some (.slice (some ⟨g, o, none⟩) n capl)
  | 13 => some (.int .i64 i)
  | 14 => some (.pointer (some ⟨g, o + i * 6, none⟩))
  | 15 => some (.pointer (some ⟨g, o + i * 6 + 3, none⟩))
  | 16 => some (.int .i64 x.k.c)
  | 17 => some (.tuple #[.agg #[.int .u32 dv.al, .int .u32 dv.aa, .int .u32 dv.ad, .bool dv.pm, .int .i64 dv.sq], .bool ok])
  | 18 => some (.tuple #[.agg #[.int .u32 dv.al, .int .u32 dv.aa, .int .u32 dv.ad, .bool dv.pm, .int .i64 dv.sq], .bool ok])
  | 19 => some (.agg #[.int .u32 dv.al, .int .u32 dv.aa, .int .u32 dv.ad, .bool dv.pm, .int .i64 dv.sq])
  | 20 => some (.bool ok)
  | 23 => some (.bool ok)
  | _ => none
set_option maxRecDepth 100000 in
set_option maxHeartbeats 64000000 in
theorem last_c (size : Int) (l : List Opr) (vl : Value) (w : World) (hP : Rows' RO w vl l) (hW : ∀ x ∈ l, WO x) (hl : l.length ≤ maxLen) :
    Calls Try.prog 5 #[.int .i64 size, vl] w fun e w' => e = .returned (.bool true) ∧ Below w.heap.size w w' := by
  obtain ⟨aol, capl, rfl, hcl, _⟩ := id hP.form
  unfold maxLen at hl
  by_cases hout : size < 1 ∨ 20 < size ∨ 60 < l.length
  · by_cases h1 : size < 1
    · go_enter Try.func5, Try.ntmps5
      go_wp2_with (go_at_call 10; refine (awake_c _).mono ?_; rintro e w8 ⟨rfl, hb8⟩)
      go_ret
      exact ⟨rfl, hb8⟩
    · by_cases h2 : 20 < size
      · go_enter Try.func5, Try.ntmps5
        go_wp2_with (go_at_call 10; refine (awake_c _).mono ?_; rintro e w8 ⟨rfl, hb8⟩)
        go_ret
        exact ⟨rfl, hb8⟩
      · have h3 : (60 : Int) < (l.length : Int) := by omega
        go_enter Try.func5, Try.ntmps5
        go_wp2_with (go_at_call 10; refine (awake_c _).mono ?_; rintro e w8 ⟨rfl, hb8⟩)
        go_ret
        exact ⟨rfl, hb8⟩
  · have h1 : ¬ size < 1 := by omega
    have h2 : ¬ 20 < size := by omega
    have h3 : ¬ (60 : Int) < (l.length : Int) := by omega
    have hl60 : l.length ≤ 60 := by omega
    have HP := Lib.hid hP
    have HWO := Lib.hid hW
    obtain ⟨n, hn⟩ : ∃ n, l.length = n := ⟨_, rfl⟩
    have HN := Lib.hid hn
    have hq := fun (c : Nat) (u : World) => eqPN c u
    rw [hn] at hl60 h3 hcl ⊢
    clear hP hW hl hout hn
    have hmk := run_make_row' (P := Try.prog) 45 4 (.bool false) 1 Try.underlying45 (by kernel_rfl) rfl .i64 .i64 n (by omega) (by omega)
    go_enter Try.func5, Try.ntmps5
    go_upto_region 4 with (first | (go_at_call 11; refine (new_at size _ (by omega) (by omega)).mono ?_; rintro e w1 ⟨c, rfl, h1⟩; have H1 := Lib.hid h1; clear h1; have hq2 := hq c) | fail)
    go_upto_region 6 with fail
    clear hq2
    go_upto_region 7 with fail
    clear hmk
    have HGD : Hid (w.heap.size ≤ w1.heap.size) := Lib.hid H1.out.b.size
    have HAD : Hid (Below w1.heap.size w1 (w1.alloc (.cells (madeCells #[.bool false] n) 4))) := Lib.hid ((Below.refl _ _).alloc (Nat.le_refl _) _)
    have HBD : Hid (Blk (w1.alloc (.cells (madeCells #[.bool false] n) 4)) w1.heap.size 4 (arrD (List.replicate n false))) := Lib.hid (by rw [← arrD_new]; exact Blk.new _ _ _)
    generalize w1.alloc (.cells (madeCells #[.bool false] n) 4) = wD at *
    have H2 := Lib.hid (H1.out.keep HAD.out)
    generalize w1.heap.size = gD at *
    clear H1 HAD
    go_wp2_with fail
    go_loopw [7] (fun vi wr => ∃ (i : Nat) (s : CS) (D : List Bool), i ≤ n ∧ vi = .int .i64 i ∧ Hid (InvL s.L l D i) ∧ Hid (At w wr (fun _ => False) c i s) ∧ Hid (Blk wr gD 4 (arrD D)) ∧ Hid (D.length = n ∧ ∀ q, i ≤ q → q < n → D[q]? = some false)) (fun vi _ => n - (intOf vi).toNat)
    case atStart => exact ⟨0, newC size, List.replicate n false, Nat.zero_le _, rfl, Lib.hid (fun p hp => by cases hp), H2, HBD, Lib.hid ⟨by simp, fun q _ hq => by simp [hq]⟩⟩
    case round =>
      clear H2 HBD
      obtain ⟨i, s, D, hi, rfl, HI, HA, HD, HF⟩ := hrel
      by_cases hlt : i < n
      · have hL : l[i]? = some (l[i]'(by rw [HN.out]; exact hlt)) := List.getElem?_eq_getElem _
        have hxm : l[i]'(by rw [HN.out]; exact hlt) ∈ l := List.getElem_mem _
        generalize l[i]'(by rw [HN.out]; exact hlt) = x at hL hxm
        have HWX := Lib.hid (HWO.out x hxm)
        have HLX := Lib.hid hL
        obtain ⟨g, o, cap', e1, _⟩ := HP.out.some6 (by rintro rfl; simp at hL)
        simp only [Value.slice.injEq] at e1
        obtain ⟨rfl, -, rfl⟩ := e1
        have hltI : (i : Int) < (n : Int) := by omega
        have HROW0 : Hid (∀ u, Below w.heap.size w u → g < u.heap.size ∧ u.cell? ⟨g, o + i * 6, none⟩ = some (.int .u8 x.kind) ∧ u.cell? ⟨g, o + i * 6 + 1, none⟩ = some (.int .i64 x.k.a) ∧ u.cell? ⟨g, o + i * 6 + 2, none⟩ = some (.int .i64 x.k.b) ∧ u.cell? ⟨g, o + i * 6 + 3, none⟩ = some (.int .i64 x.k.c) ∧ u.cell? ⟨g, o + i * 6 + 4, none⟩ = some (.int .u32 x.al) ∧ u.cell? ⟨g, o + i * 6 + 5, none⟩ = some (.int .i64 x.sq)) := Lib.hid (fun u hu => (HP.out.below hu).at6 rfl hL)
        have HF0 := Lib.hid (HF.out.2 i (Nat.le_refl _) hlt)
        obtain ⟨hgw, x0, x1, x2, x3, x4, x5⟩ := HROW0.out wr HA.out.b
        clear hL hxm
        have hk0 := HWX.out.kind.1
        have hk1 := HWX.out.kind.2
        obtain ⟨j, hj⟩ : ∃ j, x.kind % 3 = j := ⟨_, rfl⟩
        have HJ := Lib.hid hj
        have hm0 : 0 ≤ j := by omega
        have hm1 : j < 3 := by omega
        have ht : x.kind.tmod 3 = j := by rw [Int.tmod_eq_emod_of_nonneg hk0, hj]
        clear hj
        by_cases h1 : j = 1
        · subst h1
          have HL2 := Lib.hid (HI.out.ins HLX.out HF0.out)
          have HOK := Lib.hid (ins_found s x)
          obtain ⟨er, her⟩ : ∃ er, staleE x.d.sq s.seq = er := ⟨_, rfl⟩
          have HFE : Hid (fitC s x = (er == 0)) := Lib.hid (by unfold fitC; rw [her])
          have HINS : Hid (∀ u, At w u (fun _ => False) c i s → Calls Try.prog 19 #[.pointer (some ⟨c, 0, none⟩), .int .i64 x.k.a, .int .i64 x.k.b, .int .i64 x.k.c, .agg #[.int .u32 x.al, .int .u32 0, .int .u32 0, .bool false, .int .i64 x.sq]] u fun e w' => e = .returned (.int .i64 er) ∧ At w w' (fun _ => False) c (i + 1) (insC s x.k x.d) ∧ StT u w') := Lib.hid (fun u hu => by
            have := insert_st x.k x.d hu (by omega) HWX.out.k
            rw [her] at this
            exact this)
          clear her
          go_upto_region 11 with fail
          clear x0 x1 x2 x3 x4 x5
          refine wp_region_lnk (iC w wr c i s (insC s x.k x.d) gD (arrD D) ((arrD D).setIfInBounds i (.bool (er == 0)))) (iR w c i (insC s x.k x.d) gD i (.bool (er == 0))) (iP (insV c g o n capl gD i x er)) (fun _ => none) (by kernel_rfl) (by kernel_rfl) (by kernel_rfl) ⟨Nat.le_refl _, fun _ => HA.out.keep (Below.refl _ _).drew, fun h => by simp at h, fun _ => HD.out.drew, fun h => by simp at h⟩ (iC_step HGD.out) [] (by kernel_rfl) (fun _ _ _ _ _ _ _ h _ => h) ?_ ?_
          · skip
            refine ⟨⟨trivial, fun A v d hd hC hF hW K Q hk => ?_⟩, ⟨trivial, fun A v d hd hC hF hW K Q hk => ?_⟩, ⟨trivial, fun A v d hd hC hF hW K Q hk => ?_⟩, ⟨trivial, fun A v d hd hC hF hW K Q hk => ?_⟩, ⟨trivial, fun A v d hd hC hF hW K Q hk => ?_⟩, ⟨trivial, fun A v d hd hC hF hW K Q hk => ?_⟩, ⟨trivial, fun A v d hd hC hF hW K Q hk => ?_⟩, ⟨trivial, fun A v d hd hC hF hW K Q hk => ?_⟩, ⟨trivial, fun A v d hd hC hF hW K Q hk => ?_⟩, ⟨trivial, fun A v d hd hC hF hW K Q hk => ?_⟩, ⟨trivial, fun A v d hd hC hF hW K Q hk => ?_⟩, ⟨trivial, fun A v d hd hC hF hW K Q hk => ?_⟩, ⟨trivial, fun A v d hd hC hF hW K Q hk => ?_⟩, ⟨trivial, fun A v d hd hC hF hW K Q hk => ?_⟩, ⟨trivial, fun A v d hd hC hF hW K Q hk => ?_⟩, ⟨trivial, fun A v d hd hC hF hW K Q hk => ?_⟩, ⟨trivial, fun A v d hd hC hF hW K Q hk => ?_⟩, ⟨trivial, fun A v d hd hC hF hW K Q hk => ?_⟩, ⟨trivial, fun A v d hd hC hF hW K Q hk => ?_⟩, ⟨trivial, fun A v d hd hC hF hW K Q hk => ?_⟩, ⟨trivial, fun A v d hd hC hF hW K Q hk => ?_⟩, ⟨trivial, fun A v d hd hC hF hW K Q hk => ?_⟩, ⟨trivial, fun A v d hd hC hF hW K Q hk => ?_⟩, ⟨trivial, fun A v d hd hC hF hW K Q hk => ?_⟩, ⟨trivial, fun A v d hd hC hF hW K Q hk => ?_⟩, ⟨trivial, fun A v d hd hC hF hW K Q hk => ?_⟩, ⟨trivial, fun A v d hd hC hF hW K Q hk => ?_⟩, trivial⟩
            · have f6 : A.tmps[6]?.getD undef = .slice (some ⟨gD, 0, none⟩) n n := fg_none (hF 6) (by kernel_rfl)
              refine Giv.wp (φ := iP (insV c g o n capl gD i x er) 0) ?_ hk
              unfold Giv
              go_simp
              exact giv_val (P := Try.prog) (iR_rfl (by decide) (by decide) (by decide)) (iP_mk rfl)
            · have f7 : A.tmps[7]?.getD undef = .int .i64 i := fg_none (hF 7) (by kernel_rfl)
              refine Giv.wp (φ := iP (insV c g o n capl gD i x er) 1) ?_ hk
              unfold Giv
              go_simp
              exact giv_val (P := Try.prog) (iR_rfl (by decide) (by decide) (by decide)) (iP_mk rfl)
            · have f5 : A.tmps[5]?.getD undef = .pointer (some ⟨c, 0, none⟩) := fg_none (hF 5) (by kernel_rfl)
              refine Giv.wp (φ := iP (insV c g o n capl gD i x er) 2) ?_ hk
              unfold Giv
              go_simp
              exact giv_val (P := Try.prog) (iR_rfl (by decide) (by decide) (by decide)) (iP_mk rfl)
            · have f1 : A.tmps[1]?.getD undef = .slice (some ⟨g, o, none⟩) n capl := fg_none (hF 1) (by kernel_rfl)
              refine Giv.wp (φ := iP (insV c g o n capl gD i x er) 3) ?_ hk
              unfold Giv
              go_simp
              exact giv_val (P := Try.prog) (iR_rfl (by decide) (by decide) (by decide)) (iP_mk rfl)
            · have f7 : A.tmps[7]?.getD undef = .int .i64 i := fg_none (hF 7) (by kernel_rfl)
              refine Giv.wp (φ := iP (insV c g o n capl gD i x er) 4) ?_ hk
              unfold Giv
              go_simp
              exact giv_val (P := Try.prog) (iR_rfl (by decide) (by decide) (by decide)) (iP_mk rfl)
            · have f46 : A.tmps[46]?.getD undef = .slice (some ⟨g, o, none⟩) n capl := fg_some (hF 46) (j := 3) (by kernel_rfl) (by kernel_rfl) _ rfl
              have f47 : A.tmps[47]?.getD undef = .int .i64 i := fg_some (hF 47) (j := 4) (by kernel_rfl) (by kernel_rfl) _ rfl
              refine Giv.wp (φ := iP (insV c g o n capl gD i x er) 5) ?_ hk
              unfold Giv
              go_simp
              exact giv_val (P := Try.prog) (iR_rfl (by decide) (by decide) (by decide)) (iP_mk rfl)
            · have f48 : A.tmps[48]?.getD undef = .pointer (some ⟨g, o + i * 6, none⟩) := fg_some (hF 48) (j := 5) (by kernel_rfl) (by kernel_rfl) _ rfl
              refine Giv.wp (φ := iP (insV c g o n capl gD i x er) 6) ?_ hk
              unfold Giv
              go_simp
              exact giv_val (P := Try.prog) (iR_rfl (by decide) (by decide) (by decide)) (iP_mk rfl)
            · have f49 : A.tmps[49]?.getD undef = .pointer (some ⟨g, o + i * 6 + 1, none⟩) := fg_some (hF 49) (j := 6) (by kernel_rfl) (by kernel_rfl) _ rfl
              obtain ⟨-, y0, y1, y2, y3, y4, y5⟩ := HROW0.out v (by cases h23 : d 23 with | false => exact (hC.at0 h23).b | true => exact (hC.at1 h23).b)
              refine Giv.wp (φ := iP (insV c g o n capl gD i x er) 7) ?_ hk
              unfold Giv
              go_simp
              exact giv_val (P := Try.prog) (iR_rfl (by decide) (by decide) (by decide)) (iP_mk rfl)
            · have f1 : A.tmps[1]?.getD undef = .slice (some ⟨g, o, none⟩) n capl := fg_none (hF 1) (by kernel_rfl)
              refine Giv.wp (φ := iP (insV c g o n capl gD i x er) 8) ?_ hk
              unfold Giv
              go_simp
              exact giv_val (P := Try.prog) (iR_rfl (by decide) (by decide) (by decide)) (iP_mk rfl)
            · have f7 : A.tmps[7]?.getD undef = .int .i64 i := fg_none (hF 7) (by kernel_rfl)
              refine Giv.wp (φ := iP (insV c g o n capl gD i x er) 9) ?_ hk
              unfold Giv
              go_simp
              exact giv_val (P := Try.prog) (iR_rfl (by decide) (by decide) (by decide)) (iP_mk rfl)
            · have f51 : A.tmps[51]?.getD undef = .slice (some ⟨g, o, none⟩) n capl := fg_some (hF 51) (j := 8) (by kernel_rfl) (by kernel_rfl) _ rfl
              have f52 : A.tmps[52]?.getD undef = .int .i64 i := fg_some (hF 52) (j := 9) (by kernel_rfl) (by kernel_rfl) _ rfl
              refine Giv.wp (φ := iP (insV c g o n capl gD i x er) 10) ?_ hk
              unfold Giv
              go_simp
              exact giv_val (P := Try.prog) (iR_rfl (by decide) (by decide) (by decide)) (iP_mk rfl)
            · have f53 : A.tmps[53]?.getD undef = .pointer (some ⟨g, o + i * 6, none⟩) := fg_some (hF 53) (j := 10) (by kernel_rfl) (by kernel_rfl) _ rfl
              refine Giv.wp (φ := iP (insV c g o n capl gD i x er) 11) ?_ hk
              unfold Giv
              go_simp
              exact giv_val (P := Try.prog) (iR_rfl (by decide) (by decide) (by decide)) (iP_mk rfl)
            · have f54 : A.tmps[54]?.getD undef = .pointer (some ⟨g, o + i * 6 + 2, none⟩) := fg_some (hF 54) (j := 11) (by kernel_rfl) (by kernel_rfl) _ rfl
              obtain ⟨-, y0, y1, y2, y3, y4, y5⟩ := HROW0.out v (by cases h23 : d 23 with | false => exact (hC.at0 h23).b | true => exact (hC.at1 h23).b)
              refine Giv.wp (φ := iP (insV c g o n capl gD i x er) 12) ?_ hk
              unfold Giv
              go_simp
              exact giv_val (P := Try.prog) (iR_rfl (by decide) (by decide) (by decide)) (iP_mk rfl)
            · have f1 : A.tmps[1]?.getD undef = .slice (some ⟨g, o, none⟩) n capl := fg_none (hF 1) (by kernel_rfl)
              refine Giv.wp (φ := iP (insV c g o n capl gD i x er) 13) ?_ hk
              unfold Giv
              go_simp
              exact giv_val (P := Try.prog) (iR_rfl (by decide) (by decide) (by decide)) (iP_mk rfl)
            · have f7 : A.tmps[7]?.getD undef = .int .i64 i := fg_none (hF 7) (by kernel_rfl)
              refine Giv.wp (φ := iP (insV c g o n capl gD i x er) 14) ?_ hk
              unfold Giv
              go_simp
              exact giv_val (P := Try.prog) (iR_rfl (by decide) (by decide) (by decide)) (iP_mk rfl)
            · have f56 : A.tmps[56]?.getD undef = .slice (some ⟨g, o, none⟩) n capl := fg_some (hF 56) (j := 13) (by kernel_rfl) (by kernel_rfl) _ rfl
              have f57 : A.tmps[57]?.getD undef = .int .i64 i := fg_some (hF 57) (j := 14) (by kernel_rfl) (by kernel_rfl) _ rfl
              refine Giv.wp (φ := iP (insV c g o n capl gD i x er) 15) ?_ hk
              unfold Giv
              go_simp
              exact giv_val (P := Try.prog) (iR_rfl (by decide) (by decide) (by decide)) (iP_mk rfl)
            · have f58 : A.tmps[58]?.getD undef = .pointer (some ⟨g, o + i * 6, none⟩) := fg_some (hF 58) (j := 15) (by kernel_rfl) (by kernel_rfl) _ rfl
              refine Giv.wp (φ := iP (insV c g o n capl gD i x er) 16) ?_ hk
              unfold Giv
              go_simp
              exact giv_val (P := Try.prog) (iR_rfl (by decide) (by decide) (by decide)) (iP_mk rfl)
            · have f59 : A.tmps[59]?.getD undef = .pointer (some ⟨g, o + i * 6 + 3, none⟩) := fg_some (hF 59) (j := 16) (by kernel_rfl) (by kernel_rfl) _ rfl
              obtain ⟨-, y0, y1, y2, y3, y4, y5⟩ := HROW0.out v (by cases h23 : d 23 with | false => exact (hC.at0 h23).b | true => exact (hC.at1 h23).b)
              refine Giv.wp (φ := iP (insV c g o n capl gD i x er) 17) ?_ hk
              unfold Giv
              go_simp
              exact giv_val (P := Try.prog) (iR_rfl (by decide) (by decide) (by decide)) (iP_mk rfl)
            · have f1 : A.tmps[1]?.getD undef = .slice (some ⟨g, o, none⟩) n capl := fg_none (hF 1) (by kernel_rfl)
              refine Giv.wp (φ := iP (insV c g o n capl gD i x er) 18) ?_ hk
              unfold Giv
              go_simp
              exact giv_val (P := Try.prog) (iR_rfl (by decide) (by decide) (by decide)) (iP_mk rfl)
            · have f7 : A.tmps[7]?.getD undef = .int .i64 i := fg_none (hF 7) (by kernel_rfl)
              refine Giv.wp (φ := iP (insV c g o n capl gD i x er) 19) ?_ hk
              unfold Giv
              go_simp
              exact giv_val (P := Try.prog) (iR_rfl (by decide) (by decide) (by decide)) (iP_mk rfl)
            · have f61 : A.tmps[61]?.getD undef = .slice (some ⟨g, o, none⟩) n capl := fg_some (hF 61) (j := 18) (by kernel_rfl) (by kernel_rfl) _ rfl
              have f62 : A.tmps[62]?.getD undef = .int .i64 i := fg_some (hF 62) (j := 19) (by kernel_rfl) (by kernel_rfl) _ rfl
              refine Giv.wp (φ := iP (insV c g o n capl gD i x er) 20) ?_ hk
              unfold Giv
              go_simp
              exact giv_val (P := Try.prog) (iR_rfl (by decide) (by decide) (by decide)) (iP_mk rfl)
            · have f63 : A.tmps[63]?.getD undef = .pointer (some ⟨g, o + i * 6, none⟩) := fg_some (hF 63) (j := 20) (by kernel_rfl) (by kernel_rfl) _ rfl
              obtain ⟨-, y0, y1, y2, y3, y4, y5⟩ := HROW0.out v (by cases h23 : d 23 with | false => exact (hC.at0 h23).b | true => exact (hC.at1 h23).b)
              refine Giv.wp (φ := iP (insV c g o n capl gD i x er) 21) ?_ hk
              unfold Giv
              go_simp
              exact giv_val (P := Try.prog) (iR_rfl (by decide) (by decide) (by decide)) (iP_mk rfl)
            · have f64 : A.tmps[64]?.getD undef = .agg #[.int .u8 x.kind, .int .i64 x.k.a, .int .i64 x.k.b, .int .i64 x.k.c, .int .u32 x.al, .int .i64 x.sq] := fg_some (hF 64) (j := 21) (by kernel_rfl) (by kernel_rfl) _ rfl
              refine Giv.wp (φ := iP (insV c g o n capl gD i x er) 22) ?_ hk
              unfold Giv
              go_simp
              exact giv_enter (P := Try.prog) ((decision_c x v).mono fun e w2 ⟨he, h1⟩ => ⟨_, he, iR_dec h1, iP_mk rfl⟩)
            · have f45 : A.tmps[45]?.getD undef = .pointer (some ⟨c, 0, none⟩) := fg_some (hF 45) (j := 2) (by kernel_rfl) (by kernel_rfl) _ rfl
              have f50 : A.tmps[50]?.getD undef = .int .i64 x.k.a := fg_some (hF 50) (j := 7) (by kernel_rfl) (by kernel_rfl) _ rfl
              have f55 : A.tmps[55]?.getD undef = .int .i64 x.k.b := fg_some (hF 55) (j := 12) (by kernel_rfl) (by kernel_rfl) _ rfl
              have f60 : A.tmps[60]?.getD undef = .int .i64 x.k.c := fg_some (hF 60) (j := 17) (by kernel_rfl) (by kernel_rfl) _ rfl
              have f65 : A.tmps[65]?.getD undef = .agg #[.int .u32 x.al, .int .u32 0, .int .u32 0, .bool false, .int .i64 x.sq] := fg_some (hF 65) (j := 22) (by kernel_rfl) (by kernel_rfl) _ rfl
              refine Giv.wp (φ := iP (insV c g o n capl gD i x er) 23) ?_ hk
              unfold Giv
              go_simp
              exact giv_enter (P := Try.prog) ((HINS.out v (hC.at0 hd)).mono fun e w2 ⟨he, h1, h2⟩ => ⟨_, he, iR_ins h1 h2, iP_mk rfl⟩)
            · have f66 : A.tmps[66]?.getD undef = .int .i64 er := fg_some (hF 66) (j := 23) (by kernel_rfl) (by kernel_rfl) _ rfl
              refine Giv.wp (φ := iP (insV c g o n capl gD i x er) 24) ?_ hk
              unfold Giv
              go_simp
              exact giv_val (P := Try.prog) (iR_rfl (by decide) (by decide) (by decide)) (iP_mk rfl)
            · have f43 : A.tmps[43]?.getD undef = .slice (some ⟨gD, 0, none⟩) n n := fg_some (hF 43) (j := 0) (by kernel_rfl) (by kernel_rfl) _ rfl
              have f44 : A.tmps[44]?.getD undef = .int .i64 i := fg_some (hF 44) (j := 1) (by kernel_rfl) (by kernel_rfl) _ rfl
              refine Giv.wp (φ := iP (insV c g o n capl gD i x er) 25) ?_ hk
              unfold Giv
              go_simp
              exact giv_val (P := Try.prog) (iR_rfl (by decide) (by decide) (by decide)) (iP_mk rfl)
            · have f68 : A.tmps[68]?.getD undef = .pointer (some ⟨gD, i, none⟩) := fg_some (hF 68) (j := 25) (by kernel_rfl) (by kernel_rfl) _ rfl
              have f67 : A.tmps[67]?.getD undef = .bool (er == 0) := fg_some (hF 67) (j := 24) (by kernel_rfl) (by kernel_rfl) _ rfl
              have hcc := (hC.b0 hd).cell i
              have hff := (hC.b0 hd).frozen i
              rw [show (arrD D)[i]? = some (.bool false) by simp [arrD, HF0.out]] at hcc
              refine Giv.wp (φ := iP (insV c g o n capl gD i x er) 26) ?_ hk
              unfold Giv
              go_simp
              first | exact giv_skip (P := Try.prog) iR_set (fun _ h => by cases h) | exact giv_val (P := Try.prog) iR_set (fun _ h => by cases h)
          · intro a0 W9 d hsd hC hsz hdf hF hL
            have hA9 := hC.at1 (hsd 23 (by decide))
            have hB9 := hC.b1 (hsd 26 (by decide))
            rw [arrD_set, ← HFE.out] at hB9
            have ha := end_gen [false, false, false, false, false, false, false, false, false, false, false, false, false, false, false, false, false, false, false, false, false, false, false, false, false, false, false, false, false, false, false, false, false, false, false, false, false, false, false, false, false, false, false, true, true, true, true, true, true, true, true, true, true, true, true, true, true, true, true, true, true, true, true, true, true, true, true, true, true] hsz hdf hF (by kernel_rfl)
            rw [ha]
            clear ha hF hL hsd hC
            simp only [cutM_yes, cutM_no, cutM_nil, Nat.reduceAdd]
            generalize a0.tmps[43]?.getD undef = s43
            generalize a0.tmps[44]?.getD undef = s44
            generalize a0.tmps[45]?.getD undef = s45
            generalize a0.tmps[46]?.getD undef = s46
            generalize a0.tmps[47]?.getD undef = s47
            generalize a0.tmps[48]?.getD undef = s48
            generalize a0.tmps[49]?.getD undef = s49
            generalize a0.tmps[50]?.getD undef = s50
            generalize a0.tmps[51]?.getD undef = s51
            generalize a0.tmps[52]?.getD undef = s52
            generalize a0.tmps[53]?.getD undef = s53
            generalize a0.tmps[54]?.getD undef = s54
            generalize a0.tmps[55]?.getD undef = s55
            generalize a0.tmps[56]?.getD undef = s56
            generalize a0.tmps[57]?.getD undef = s57
            generalize a0.tmps[58]?.getD undef = s58
            generalize a0.tmps[59]?.getD undef = s59
            generalize a0.tmps[60]?.getD undef = s60
            generalize a0.tmps[61]?.getD undef = s61
            generalize a0.tmps[62]?.getD undef = s62
            generalize a0.tmps[63]?.getD undef = s63
            generalize a0.tmps[64]?.getD undef = s64
            generalize a0.tmps[65]?.getD undef = s65
            generalize a0.tmps[66]?.getD undef = s66
            generalize a0.tmps[67]?.getD undef = s67
            generalize a0.tmps[68]?.getD undef = s68
            clear hsz hdf HINS
            have HB := Lib.hid hA9
            have HDD := Lib.hid hB9
            have HDI : Hid ((D.set i (fitC s x))[i]? = some (fitC s x)) := Lib.hid (by have := (List.getElem?_eq_some_iff.1 HF0.out).1; simp [this])
            have HF2 : Hid ((D.set i (fitC s x)).length = n ∧ ∀ q, i + 1 ≤ q → q < n → (D.set i (fitC s x))[q]? = some false) := Lib.hid ⟨by rw [List.length_set]; exact HF.out.1, fun q h1 h2 => by rw [List.getElem?_set_ne (by omega)]; exact HF.out.2 q (by omega) h2⟩
            clear hA9 hB9 HFE HI HD HF HF0 HA
            generalize D.set i (fitC s x) = D2 at *
            generalize fitC s x = bi at *
            generalize insC s x.k x.d = s2 at *
            generalize W9 = wR at *
            clear HJ ht hk0 hk1
            have HRB := Lib.hid HB.out.b
            have HROW : Hid (∀ u d, gC wR (i + 1) s2 (findC s2 x.k) d u → g < u.heap.size ∧ u.cell? ⟨g, o + i * 6, none⟩ = some (.int .u8 x.kind) ∧ u.cell? ⟨g, o + i * 6 + 1, none⟩ = some (.int .i64 x.k.a) ∧ u.cell? ⟨g, o + i * 6 + 2, none⟩ = some (.int .i64 x.k.b) ∧ u.cell? ⟨g, o + i * 6 + 3, none⟩ = some (.int .i64 x.k.c) ∧ u.cell? ⟨g, o + i * 6 + 4, none⟩ = some (.int .u32 x.al) ∧ u.cell? ⟨g, o + i * 6 + 5, none⟩ = some (.int .i64 x.sq)) := Lib.hid (fun u d hu => HROW0.out u (HRB.out.trans (hu.b.mono HRB.out.size)))
            have HGOT : Hid (isC s2 x.k = true → (x.k, gotC s2 x.k) ∈ s2.L) := Lib.hid (fun h => got_mem h)
            obtain ⟨dv, hdv⟩ : ∃ dv, gotC s2 x.k = dv := ⟨_, rfl⟩
            obtain ⟨ok, hok⟩ : ∃ ok, isC s2 x.k = ok := ⟨_, rfl⟩
            have HFD : Hid (∀ k u, At wR u (fun _ => False) k (i + 1) s2 → Calls Try.prog 18 #[.pointer (some ⟨k, 0, none⟩), .int .i64 x.k.a, .int .i64 x.k.b, .int .i64 x.k.c] u fun e w' => e = .returned (.tuple #[.agg #[.int .u32 dv.al, .int .u32 dv.aa, .int .u32 dv.ad, .bool dv.pm, .int .i64 dv.sq], .bool ok]) ∧ At wR w' (fun _ => False) k (i + 1 + 1) (findC s2 x.k) ∧ StT u w') := Lib.hid (fun k u hu => by
              have := find_st x.k hu (by omega) HWX.out.k
              rw [hdv, hok] at this
              exact this)
            rw [hdv, hok] at HGOT
            rw [hok] at HOK
            clear hdv hok
            go_upto_region 13 with fail
            refine wp_region_lnk (gC wR (i + 1) s2 (findC s2 x.k)) (gR wR (i + 1) s2 (findC s2 x.k) dv) (gP wR (lsV c g o n capl i x dv ok) dv) (fun q => if q == 22 then some 8 else none) (by kernel_rfl) (by kernel_rfl) (by kernel_rfl) (gC_start (Below.refl _ _).drew rfl) (fun i d w w' hd hC hr => gC_step i d w w' hd hC hr) [] (by kernel_rfl) (fun _ _ _ _ _ hij _ h hr => gP_keep hij h hr) ?_ ?_
            · skip
              refine ⟨⟨trivial, fun A v d hd hC hF hW K Q hk => ?_⟩, ⟨trivial, fun A v d hd hC hF hW K Q hk => ?_⟩, ⟨trivial, fun A v d hd hC hF hW K Q hk => ?_⟩, ⟨trivial, fun A v d hd hC hF hW K Q hk => ?_⟩, ⟨trivial, fun A v d hd hC hF hW K Q hk => ?_⟩, ⟨trivial, fun A v d hd hC hF hW K Q hk => ?_⟩, ⟨trivial, fun A v d hd hC hF hW K Q hk => ?_⟩, ⟨trivial, fun A v d hd hC hF hW K Q hk => ?_⟩, ⟨trivial, fun A v d hd hC hF hW K Q hk => ?_⟩, ⟨trivial, fun A v d hd hC hF hW K Q hk => ?_⟩, ⟨trivial, fun A v d hd hC hF hW K Q hk => ?_⟩, ⟨trivial, fun A v d hd hC hF hW K Q hk => ?_⟩, ⟨trivial, fun A v d hd hC hF hW K Q hk => ?_⟩, ⟨trivial, fun A v d hd hC hF hW K Q hk => ?_⟩, ⟨trivial, fun A v d hd hC hF hW K Q hk => ?_⟩, ⟨trivial, fun A v d hd hC hF hW K Q hk => ?_⟩, ⟨trivial, fun A v d hd hC hF hW K Q hk => ?_⟩, ⟨trivial, fun A v d hd hC hF hW K Q hk => ?_⟩, ⟨trivial, fun A v d hd hC hF hW K Q hk => ?_⟩, ⟨trivial, fun A v d hd hC hF hW K Q hk => ?_⟩, ⟨trivial, fun A v d hd hC hF hW K Q hk => ?_⟩, ⟨trivial, fun A v d hd hC hF hW K Q hk => ?_⟩, ⟨trivial, fun A v d hd hC hF hW K Q hk => ?_⟩, ⟨trivial, fun A v d hd hC hF hW K Q hk => ?_⟩, trivial⟩
              · have f5 : A.tmps[5]?.getD undef = .pointer (some ⟨c, 0, none⟩) := fg_none (hF 5) (by kernel_rfl)
                refine Giv.wp (φ := gP wR (lsV c g o n capl i x dv ok) dv 0) ?_ hk
                unfold Giv
                go_simp
                exact giv_val (P := Try.prog) (gR_rfl (by decide) (by decide) (by decide) (by decide)) (gP_mk (by decide) (by decide) (by decide) rfl)
              · have f76 : A.tmps[76]?.getD undef = .pointer (some ⟨c, 0, none⟩) := gP_val (fg_some (hF 76) (j := 0) (by kernel_rfl) (by kernel_rfl)) (by decide) (by decide) (by decide) rfl
                refine Giv.wp (φ := gP wR (lsV c g o n capl i x dv ok) dv 1) ?_ hk
                unfold Giv
                go_simp
                exact giv_enter (P := Try.prog) ((copy_k (HB.out.keep hC.b)).mono fun e w2 ⟨he, h1⟩ => ⟨_, he, gR_copy h1, gP_copied hC hd h1⟩)
              · have f1 : A.tmps[1]?.getD undef = .slice (some ⟨g, o, none⟩) n capl := fg_none (hF 1) (by kernel_rfl)
                refine Giv.wp (φ := gP wR (lsV c g o n capl i x dv ok) dv 2) ?_ hk
                unfold Giv
                go_simp
                exact giv_val (P := Try.prog) (gR_rfl (by decide) (by decide) (by decide) (by decide)) (gP_mk (by decide) (by decide) (by decide) rfl)
              · have f7 : A.tmps[7]?.getD undef = .int .i64 i := fg_none (hF 7) (by kernel_rfl)
                refine Giv.wp (φ := gP wR (lsV c g o n capl i x dv ok) dv 3) ?_ hk
                unfold Giv
                go_simp
                exact giv_val (P := Try.prog) (gR_rfl (by decide) (by decide) (by decide) (by decide)) (gP_mk (by decide) (by decide) (by decide) rfl)
              · have f78 : A.tmps[78]?.getD undef = .slice (some ⟨g, o, none⟩) n capl := gP_val (fg_some (hF 78) (j := 2) (by kernel_rfl) (by kernel_rfl)) (by decide) (by decide) (by decide) rfl
                have f79 : A.tmps[79]?.getD undef = .int .i64 i := gP_val (fg_some (hF 79) (j := 3) (by kernel_rfl) (by kernel_rfl)) (by decide) (by decide) (by decide) rfl
                refine Giv.wp (φ := gP wR (lsV c g o n capl i x dv ok) dv 4) ?_ hk
                unfold Giv
                go_simp
                exact giv_val (P := Try.prog) (gR_rfl (by decide) (by decide) (by decide) (by decide)) (gP_mk (by decide) (by decide) (by decide) rfl)
              · have f80 : A.tmps[80]?.getD undef = .pointer (some ⟨g, o + i * 6, none⟩) := gP_val (fg_some (hF 80) (j := 4) (by kernel_rfl) (by kernel_rfl)) (by decide) (by decide) (by decide) rfl
                refine Giv.wp (φ := gP wR (lsV c g o n capl i x dv ok) dv 5) ?_ hk
                unfold Giv
                go_simp
                exact giv_val (P := Try.prog) (gR_rfl (by decide) (by decide) (by decide) (by decide)) (gP_mk (by decide) (by decide) (by decide) rfl)
              · have f81 : A.tmps[81]?.getD undef = .pointer (some ⟨g, o + i * 6 + 1, none⟩) := gP_val (fg_some (hF 81) (j := 5) (by kernel_rfl) (by kernel_rfl)) (by decide) (by decide) (by decide) rfl
                obtain ⟨-, y0, y1, y2, y3, y4, y5⟩ := HROW.out v d hC
                refine Giv.wp (φ := gP wR (lsV c g o n capl i x dv ok) dv 6) ?_ hk
                unfold Giv
                go_simp
                exact giv_val (P := Try.prog) (gR_rfl (by decide) (by decide) (by decide) (by decide)) (gP_mk (by decide) (by decide) (by decide) rfl)
              · have f1 : A.tmps[1]?.getD undef = .slice (some ⟨g, o, none⟩) n capl := fg_none (hF 1) (by kernel_rfl)
                refine Giv.wp (φ := gP wR (lsV c g o n capl i x dv ok) dv 7) ?_ hk
                unfold Giv
                go_simp
                exact giv_val (P := Try.prog) (gR_rfl (by decide) (by decide) (by decide) (by decide)) (gP_mk (by decide) (by decide) (by decide) rfl)
              · have f7 : A.tmps[7]?.getD undef = .int .i64 i := fg_none (hF 7) (by kernel_rfl)
                refine Giv.wp (φ := gP wR (lsV c g o n capl i x dv ok) dv 8) ?_ hk
                unfold Giv
                go_simp
                exact giv_val (P := Try.prog) (gR_rfl (by decide) (by decide) (by decide) (by decide)) (gP_mk (by decide) (by decide) (by decide) rfl)
              · have f83 : A.tmps[83]?.getD undef = .slice (some ⟨g, o, none⟩) n capl := gP_val (fg_some (hF 83) (j := 7) (by kernel_rfl) (by kernel_rfl)) (by decide) (by decide) (by decide) rfl
                have f84 : A.tmps[84]?.getD undef = .int .i64 i := gP_val (fg_some (hF 84) (j := 8) (by kernel_rfl) (by kernel_rfl)) (by decide) (by decide) (by decide) rfl
                refine Giv.wp (φ := gP wR (lsV c g o n capl i x dv ok) dv 9) ?_ hk
                unfold Giv
                go_simp
                exact giv_val (P := Try.prog) (gR_rfl (by decide) (by decide) (by decide) (by decide)) (gP_mk (by decide) (by decide) (by decide) rfl)
              · have f85 : A.tmps[85]?.getD undef = .pointer (some ⟨g, o + i * 6, none⟩) := gP_val (fg_some (hF 85) (j := 9) (by kernel_rfl) (by kernel_rfl)) (by decide) (by decide) (by decide) rfl
                refine Giv.wp (φ := gP wR (lsV c g o n capl i x dv ok) dv 10) ?_ hk
                unfold Giv
                go_simp
                exact giv_val (P := Try.prog) (gR_rfl (by decide) (by decide) (by decide) (by decide)) (gP_mk (by decide) (by decide) (by decide) rfl)
              · have f86 : A.tmps[86]?.getD undef = .pointer (some ⟨g, o + i * 6 + 2, none⟩) := gP_val (fg_some (hF 86) (j := 10) (by kernel_rfl) (by kernel_rfl)) (by decide) (by decide) (by decide) rfl
                obtain ⟨-, y0, y1, y2, y3, y4, y5⟩ := HROW.out v d hC
                refine Giv.wp (φ := gP wR (lsV c g o n capl i x dv ok) dv 11) ?_ hk
                unfold Giv
                go_simp
                exact giv_val (P := Try.prog) (gR_rfl (by decide) (by decide) (by decide) (by decide)) (gP_mk (by decide) (by decide) (by decide) rfl)
              · have f1 : A.tmps[1]?.getD undef = .slice (some ⟨g, o, none⟩) n capl := fg_none (hF 1) (by kernel_rfl)
                refine Giv.wp (φ := gP wR (lsV c g o n capl i x dv ok) dv 12) ?_ hk
                unfold Giv
                go_simp
                exact giv_val (P := Try.prog) (gR_rfl (by decide) (by decide) (by decide) (by decide)) (gP_mk (by decide) (by decide) (by decide) rfl)
              · have f7 : A.tmps[7]?.getD undef = .int .i64 i := fg_none (hF 7) (by kernel_rfl)
                refine Giv.wp (φ := gP wR (lsV c g o n capl i x dv ok) dv 13) ?_ hk
                unfold Giv
                go_simp
                exact giv_val (P := Try.prog) (gR_rfl (by decide) (by decide) (by decide) (by decide)) (gP_mk (by decide) (by decide) (by decide) rfl)
              · have f88 : A.tmps[88]?.getD undef = .slice (some ⟨g, o, none⟩) n capl := gP_val (fg_some (hF 88) (j := 12) (by kernel_rfl) (by kernel_rfl)) (by decide) (by decide) (by decide) rfl
                have f89 : A.tmps[89]?.getD undef = .int .i64 i := gP_val (fg_some (hF 89) (j := 13) (by kernel_rfl) (by kernel_rfl)) (by decide) (by decide) (by decide) rfl
                refine Giv.wp (φ := gP wR (lsV c g o n capl i x dv ok) dv 14) ?_ hk
                unfold Giv
                go_simp
                exact giv_val (P := Try.prog) (gR_rfl (by decide) (by decide) (by decide) (by decide)) (gP_mk (by decide) (by decide) (by decide) rfl)
              · have f90 : A.tmps[90]?.getD undef = .pointer (some ⟨g, o + i * 6, none⟩) := gP_val (fg_some (hF 90) (j := 14) (by kernel_rfl) (by kernel_rfl)) (by decide) (by decide) (by decide) rfl
                refine Giv.wp (φ := gP wR (lsV c g o n capl i x dv ok) dv 15) ?_ hk
                unfold Giv
                go_simp
                exact giv_val (P := Try.prog) (gR_rfl (by decide) (by decide) (by decide) (by decide)) (gP_mk (by decide) (by decide) (by decide) rfl)
              · have f91 : A.tmps[91]?.getD undef = .pointer (some ⟨g, o + i * 6 + 3, none⟩) := gP_val (fg_some (hF 91) (j := 15) (by kernel_rfl) (by kernel_rfl)) (by decide) (by decide) (by decide) rfl
                obtain ⟨-, y0, y1, y2, y3, y4, y5⟩ := HROW.out v d hC
                refine Giv.wp (φ := gP wR (lsV c g o n capl i x dv ok) dv 16) ?_ hk
                unfold Giv
                go_simp
                exact giv_val (P := Try.prog) (gR_rfl (by decide) (by decide) (by decide) (by decide)) (gP_mk (by decide) (by decide) (by decide) rfl)
              · obtain ⟨k, f77, hpk⟩ := gP_copy (fg_some (hF 77) (j := 1) (by kernel_rfl) (by kernel_rfl))
                have f82 : A.tmps[82]?.getD undef = .int .i64 x.k.a := gP_val (fg_some (hF 82) (j := 6) (by kernel_rfl) (by kernel_rfl)) (by decide) (by decide) (by decide) rfl
                have f87 : A.tmps[87]?.getD undef = .int .i64 x.k.b := gP_val (fg_some (hF 87) (j := 11) (by kernel_rfl) (by kernel_rfl)) (by decide) (by decide) (by decide) rfl
                have f92 : A.tmps[92]?.getD undef = .int .i64 x.k.c := gP_val (fg_some (hF 92) (j := 16) (by kernel_rfl) (by kernel_rfl)) (by decide) (by decide) (by decide) rfl
                refine Giv.wp (φ := gP wR (lsV c g o n capl i x dv ok) dv 17) ?_ hk
                unfold Giv
                go_simp
                exact giv_enter (P := Try.prog) ((HFD.out k v (hC.at hd hpk)).mono fun e w2 ⟨he, h1, h2⟩ => ⟨_, he, gR_find hpk h1 h2, gP_mk (by decide) (by decide) (by decide) rfl⟩)
              · have f93 : A.tmps[93]?.getD undef = .tuple #[.agg #[.int .u32 dv.al, .int .u32 dv.aa, .int .u32 dv.ad, .bool dv.pm, .int .i64 dv.sq], .bool ok] := gP_val (fg_some (hF 93) (j := 17) (by kernel_rfl) (by kernel_rfl)) (by decide) (by decide) (by decide) rfl
                refine Giv.wp (φ := gP wR (lsV c g o n capl i x dv ok) dv 18) ?_ hk
                unfold Giv
                go_simp
                exact giv_val (P := Try.prog) (gR_rfl (by decide) (by decide) (by decide) (by decide)) (gP_mk (by decide) (by decide) (by decide) rfl)
              · have f75 : A.tmps[75]?.getD undef = .tuple #[.agg #[.int .u32 dv.al, .int .u32 dv.aa, .int .u32 dv.ad, .bool dv.pm, .int .i64 dv.sq], .bool ok] := gP_val (fg_some (hF 75) (j := 18) (by kernel_rfl) (by kernel_rfl)) (by decide) (by decide) (by decide) rfl
                refine Giv.wp (φ := gP wR (lsV c g o n capl i x dv ok) dv 19) ?_ hk
                unfold Giv
                go_simp
                exact giv_val (P := Try.prog) (gR_rfl (by decide) (by decide) (by decide) (by decide)) (gP_mk (by decide) (by decide) (by decide) rfl)
              · have f75 : A.tmps[75]?.getD undef = .tuple #[.agg #[.int .u32 dv.al, .int .u32 dv.aa, .int .u32 dv.ad, .bool dv.pm, .int .i64 dv.sq], .bool ok] := gP_val (fg_some (hF 75) (j := 18) (by kernel_rfl) (by kernel_rfl)) (by decide) (by decide) (by decide) rfl
                refine Giv.wp (φ := gP wR (lsV c g o n capl i x dv ok) dv 20) ?_ hk
                unfold Giv
                go_simp
                exact giv_val (P := Try.prog) (gR_rfl (by decide) (by decide) (by decide) (by decide)) (gP_mk (by decide) (by decide) (by decide) rfl)
              · refine Giv.wp (φ := gP wR (lsV c g o n capl i x dv ok) dv 21) ?_ hk
                unfold Giv
                go_simp
                exact giv_val (P := Try.prog) gR_box (by unfold gP; rw [if_neg (by decide), if_pos rfl]; exact ⟨_, Dc.z, rfl, hC.b.size, Blk.new _ _ _⟩)
              · obtain ⟨gb, xb, f8, hgb, hbb⟩ := gP_box (fg_some (hF 8) (j := 21) (by kernel_rfl) (by kernel_rfl))
                have f94 : A.tmps[94]?.getD undef = .agg #[.int .u32 dv.al, .int .u32 dv.aa, .int .u32 dv.ad, .bool dv.pm, .int .i64 dv.sq] := gP_val (fg_some (hF 94) (j := 19) (by kernel_rfl) (by kernel_rfl)) (by decide) (by decide) (by decide) rfl
                have e8 : A.eval (.tmp 8) = .pointer (some ⟨gb, 0, none⟩) := by rw [← f8]; simp [Act.eval]
                obtain ⟨r0, r1, r2, r3, r4, z0, z1, z2, z3, z4⟩ := Blk.cells5 hbb
                refine Giv.wp (φ := fun _ w2 => gP wR (lsV c g o n capl i x dv ok) dv 22 (A.eval (.tmp 8)) w2) ?_ hk
                rw [e8]
                unfold Giv
                go_simp
                first | exact giv_skip (P := Try.prog) (gR_fill hgb hbb) (by unfold gP; rw [if_neg (by decide), if_neg (by decide), if_pos rfl]; exact ⟨gb, rfl, hgb, set5_blk hbb dv⟩) | exact giv_val (P := Try.prog) (gR_fill hgb hbb) (by unfold gP; rw [if_neg (by decide), if_neg (by decide), if_pos rfl]; exact ⟨gb, rfl, hgb, set5_blk hbb dv⟩)
              · have f95 : A.tmps[95]?.getD undef = .bool ok := gP_val (fg_some (hF 95) (j := 20) (by kernel_rfl) (by kernel_rfl)) (by decide) (by decide) (by decide) rfl
                refine Giv.wp (φ := gP wR (lsV c g o n capl i x dv ok) dv 23) ?_ hk
                unfold Giv
                go_simp
                exact giv_val (P := Try.prog) (gR_rfl (by decide) (by decide) (by decide) (by decide)) (gP_mk (by decide) (by decide) (by decide) rfl)
            · intro a0 W9 d hsd hC hsz hdf hF hL
              have hb9 := hC.b
              have ha := end_gen [false, false, false, false, false, false, false, false, true, true, false, false, false, false, false, false, false, false, false, false, false, false, false, false, false, false, false, false, false, false, false, false, false, false, false, false, false, false, false, false, false, false, false, false, false, false, false, false, false, false, false, false, false, false, false, false, false, false, false, false, false, false, false, false, false, false, false, false, false, false, false, false, false, false, false, true, true, true, true, true, true, true, true, true, true, true, true, true, true, true, true, true, true, true, true, true] hsz hdf hF (by kernel_rfl)
              have f9 : a0.tmps[9]?.getD undef = .bool ok := gP_val (fe_some (hF 9) (j := 23) (by kernel_rfl)) (by decide) (by decide) (by decide) rfl
              obtain ⟨gb, f8, hgb, hbb⟩ := gP_full (fl_link hL (j := 22) rfl rfl rfl)
              rw [ha]
              clear ha hF hL hsd hC
              simp only [cutM_yes, cutM_no, cutM_nil, Nat.reduceAdd]
              rw [f9, f8]
              clear f9 f8
              generalize a0.tmps[75]?.getD undef = s75
              generalize a0.tmps[76]?.getD undef = s76
              generalize a0.tmps[77]?.getD undef = s77
              generalize a0.tmps[78]?.getD undef = s78
              generalize a0.tmps[79]?.getD undef = s79
              generalize a0.tmps[80]?.getD undef = s80
              generalize a0.tmps[81]?.getD undef = s81
              generalize a0.tmps[82]?.getD undef = s82
              generalize a0.tmps[83]?.getD undef = s83
              generalize a0.tmps[84]?.getD undef = s84
              generalize a0.tmps[85]?.getD undef = s85
              generalize a0.tmps[86]?.getD undef = s86
              generalize a0.tmps[87]?.getD undef = s87
              generalize a0.tmps[88]?.getD undef = s88
              generalize a0.tmps[89]?.getD undef = s89
              generalize a0.tmps[90]?.getD undef = s90
              generalize a0.tmps[91]?.getD undef = s91
              generalize a0.tmps[92]?.getD undef = s92
              generalize a0.tmps[93]?.getD undef = s93
              generalize a0.tmps[94]?.getD undef = s94
              generalize a0.tmps[95]?.getD undef = s95
              clear hsz hdf hgb HFD HROW
              have HBX := Lib.hid hbb
              have HB9 := Lib.hid (HB.out.keep hb9)
              have HD9 := Lib.hid (HDD.out.keep hb9)
              have HW9 := Lib.hid (HB9.out.b)
              clear hbb hb9 HB HDD HRB
              have hci := cellD HD9.out HDI.out
              cases ok
              · obtain rfl : bi = false := by cases bi <;> first | rfl | exact absurd (HOK.out rfl) (by decide)
                clear HOK HGOT
                go_upto_region 16 with fail
                clear hci
                go_wp2_with fail
                go_loopw [10] (fun vn wr => ∃ (m : Nat) (z : Int), m ≤ i + 1 ∧ vn = .int .i64 z ∧ Hid (z = (m : Int) - 1) ∧ Hid (∀ q y, m ≤ q → q < i + 1 → l[q]? = some y → D2[q]? = some true → y.k ≠ x.k) ∧ Hid (Below W9.heap.size W9 wr)) (fun vn _ => (intOf vn + 1).toNat)
                case atStart => exact ⟨i + 1, i, Nat.le_refl _, rfl, Lib.hid (by omega), Lib.hid (fun q y h h' => by omega), Lib.hid (Below.refl _ _)⟩
                case round =>
                  obtain ⟨m, z, hm, rfl, HZ, HM, HBW⟩ := hrel
                  have HWr := Lib.hid (HW9.out.trans (HBW.out.mono HW9.out.size))
                  have HBr := Lib.hid (HB9.out.keep HBW.out)
                  have HDr := Lib.hid (HD9.out.keep HBW.out)
                  cases m with
                  | zero =>
                    have hz0 : ¬ (0 : Int) ≤ z := by have := HZ.out; omega
                    have hz1 : z < 0 := by have := HZ.out; omega
                    go_upto_region 17 with fail
                    refine wp_region_kp (by kernel_rfl) (by kernel_rfl) ?_
                    repeat (first
                      | go_big_quiet_skip
                      | (go_big_quiet_want
                         first
                           | (go_big_quiet_op
                              first
                                | go_big_quiet_on
                                | (apply Exists.intro
                                   refine ⟨fun w1 hC => ?_, ?_⟩
                                   · first
                                       | (exact fun x => x)
                                       | exact rfl
                                       | (go_simp; exact ⟨rfl, rfl⟩)
                                   go_big_quiet_on))))
                    refine wpQuiet_nil ?_
                    intro W1 hC1
                    have HB1 := Lib.hid (HBr.out.keep hC1)
                    have HD1 := Lib.hid (HDr.out.keep hC1)
                    clear hC1
                    go_upto_region 19 with fail
                    refine wp_region_kp (by kernel_rfl) (by kernel_rfl) ?_
                    repeat (first
                      | go_big_quiet_skip
                      | (go_big_quiet_want
                         first
                           | (go_big_quiet_op
                              first
                                | go_big_quiet_on
                                | (apply Exists.intro
                                   refine ⟨fun w1 hC => ?_, ?_⟩
                                   · first
                                       | (exact fun x => x)
                                       | exact rfl
                                       | (go_simp; exact ⟨rfl, rfl⟩)
                                   go_big_quiet_on))))
                    refine wpQuiet_nil ?_
                    intro W2 hC2
                    have HB2 := Lib.hid (HB1.out.keep hC2)
                    have HD2 := Lib.hid (HD1.out.keep hC2)
                    clear hC2
                    go_wp2_with fail
                    exact ⟨⟨i + 1, s2, D2, by omega, by go_num, HL2, HB2, HD2, HF2⟩, by simp [intOf]; try omega⟩
                  | succ p =>
                    obtain rfl : z = (p : Int) := by have := HZ.out; omega
                    have hz0 : (0 : Int) ≤ (p : Int) := by omega
                    have hz1 : ¬ (p : Int) < 0 := by omega
                    have hpn : (p : Int) < (n : Int) := by omega
                    have hpi : p < i + 1 := by omega
                    have hL : l[p]? = some (l[p]'(by rw [HN.out]; omega)) := List.getElem?_eq_getElem _
                    generalize l[p]'(by rw [HN.out]; omega) = y at hL
                    have hD : D2[p]? = some (D2[p]'(by rw [HF2.out.1]; omega)) := List.getElem?_eq_getElem _
                    generalize D2[p]'(by rw [HF2.out.1]; omega) = b at hD
                    have HLY := Lib.hid hL
                    have HDY := Lib.hid hD
                    clear hL hD
                    have HY : Hid (∀ u, Below wr.heap.size wr u → u.cell? ⟨gD, p, none⟩ = some (.bool b) ∧ (g < u.heap.size ∧ u.cell? ⟨g, o + p * 6, none⟩ = some (.int .u8 y.kind) ∧ u.cell? ⟨g, o + p * 6 + 1, none⟩ = some (.int .i64 y.k.a) ∧ u.cell? ⟨g, o + p * 6 + 2, none⟩ = some (.int .i64 y.k.b) ∧ u.cell? ⟨g, o + p * 6 + 3, none⟩ = some (.int .i64 y.k.c) ∧ u.cell? ⟨g, o + p * 6 + 4, none⟩ = some (.int .u32 y.al) ∧ u.cell? ⟨g, o + p * 6 + 5, none⟩ = some (.int .i64 y.sq)) ∧ (g < u.heap.size ∧ u.cell? ⟨g, o + i * 6, none⟩ = some (.int .u8 x.kind) ∧ u.cell? ⟨g, o + i * 6 + 1, none⟩ = some (.int .i64 x.k.a) ∧ u.cell? ⟨g, o + i * 6 + 2, none⟩ = some (.int .i64 x.k.b) ∧ u.cell? ⟨g, o + i * 6 + 3, none⟩ = some (.int .i64 x.k.c) ∧ u.cell? ⟨g, o + i * 6 + 4, none⟩ = some (.int .u32 x.al) ∧ u.cell? ⟨g, o + i * 6 + 5, none⟩ = some (.int .i64 x.sq))) := Lib.hid (fun u hu => by
                      have hwu := HWr.out.trans (hu.mono HWr.out.size)
                      exact ⟨cellD (HDr.out.keep hu) HDY.out, (HP.out.below hwu).at6 rfl HLY.out, HROW0.out u hwu⟩)
                    cases b with
                    | false =>
                      go_upto_region 17 with fail
                      refine wp_region_kp (by kernel_rfl) (by kernel_rfl) ?_
                      repeat (first
                        | go_big_quiet_skip
                        | (go_big_quiet_want
                           first
                             | (go_big_quiet_op
                                first
                                  | go_big_quiet_on
                                  | (apply Exists.intro
                                     refine ⟨fun w1 hC => ?_, ?_⟩
                                     · first
                                         | (obtain ⟨c0, ⟨-, y0, y1, y2, y3, y4, y5⟩, -, x0, x1, x2, x3, x4, x5⟩ := HY.out w1 hC; go_simp; exact ⟨rfl, rfl⟩)
                                         | (obtain ⟨c0, ⟨-, y0, y1, y2, y3, y4, y5⟩, -, x0, x1, x2, x3, x4, x5⟩ := HY.out w1 hC; go_simp; exact rfl)
                                         | exact rfl
                                         | (go_simp; exact ⟨rfl, rfl⟩)
                                     go_big_quiet_on))))
                      refine wpQuiet_nil ?_
                      intro W1 hC1
                      have HW1 := Lib.hid (HBW.out.trans (Below.mono hC1 HBW.out.size))
                      clear hC1
                      go_wp2_with fail
                      refine ⟨⟨p, (p : Int) - 1, by omega, by go_num, Lib.hid rfl, Lib.hid (fun q y' h h' hy hd => ?_), HW1⟩, by simp [intOf]; try omega⟩
                      by_cases e : q = p
                      · subst e; rw [HDY.out] at hd; simp at hd
                      · exact HM.out q y' (by omega) h' hy hd
                    | true =>
                      obtain ⟨sk, hsk⟩ : ∃ sk, sameK y.k x.k = sk := ⟨_, rfl⟩
                      have HSK := Lib.hid hsk
                      have HSM : Hid (∀ u, Calls Try.prog 21 #[.agg #[.int .u8 y.kind, .int .i64 y.k.a, .int .i64 y.k.b, .int .i64 y.k.c, .int .u32 y.al, .int .i64 y.sq], .agg #[.int .u8 x.kind, .int .i64 x.k.a, .int .i64 x.k.b, .int .i64 x.k.c, .int .u32 x.al, .int .i64 x.sq]] u fun e w' => e = .returned (.bool sk) ∧ Below u.heap.size u w') := Lib.hid (fun u => by
                        have := same_c y x u
                        rw [hsk] at this
                        exact this)
                      clear hsk
                      go_upto_region 17 with fail
                      refine wp_region_kp (by kernel_rfl) (by kernel_rfl) ?_
                      repeat (first
                        | go_big_quiet_skip
                        | (go_big_quiet_want
                           first
                             | (go_big_quiet_op
                                first
                                  | go_big_quiet_on
                                  | (apply Exists.intro
                                     refine ⟨fun w1 hC => ?_, ?_⟩
                                     · first
                                         | (have hsm := hC.call (HSM.out _); go_at_call 21; with_reducible exact hsm)
                                         | (obtain ⟨c0, ⟨-, y0, y1, y2, y3, y4, y5⟩, -, x0, x1, x2, x3, x4, x5⟩ := HY.out w1 hC; go_simp; exact ⟨rfl, rfl⟩)
                                         | (obtain ⟨c0, ⟨-, y0, y1, y2, y3, y4, y5⟩, -, x0, x1, x2, x3, x4, x5⟩ := HY.out w1 hC; go_simp; exact rfl)
                                         | exact rfl
                                         | (go_simp; exact ⟨rfl, rfl⟩)
                                     go_big_quiet_on))))
                      refine wpQuiet_nil ?_
                      intro W1 hC1
                      have HW1 := Lib.hid (HBW.out.trans (Below.mono hC1 HBW.out.size))
                      have HC1 := Lib.hid hC1
                      clear hC1
                      cases sk
                      · go_wp2_with fail
                        refine ⟨⟨p, (p : Int) - 1, by omega, by go_num, Lib.hid rfl, Lib.hid (fun q y' h h' hy hd => ?_), HW1⟩, by simp [intOf]; try omega⟩
                        by_cases e : q = p
                        · subst e
                          rw [HLY.out] at hy
                          simp only [Option.some.injEq] at hy
                          subst hy
                          have := HSK.out
                          simpa [sameK] using this
                        · exact HM.out q y' (by omega) h' hy hd
                      · have HKK : Hid (y.k = x.k) := Lib.hid (by have := HSK.out; simpa [sameK] using this)
                        have HB1 := Lib.hid (HBr.out.keep HC1.out)
                        have HD1 := Lib.hid (HDr.out.keep HC1.out)
                        go_upto_region 19 with fail
                        refine wp_region_kp (by kernel_rfl) (by kernel_rfl) ?_
                        repeat (first
                          | go_big_quiet_skip
                          | (go_big_quiet_want
                             first
                               | (go_big_quiet_op
                                  first
                                    | go_big_quiet_on
                                    | (apply Exists.intro
                                       refine ⟨fun w1 hC => ?_, ?_⟩
                                       · first
                                           | (exact fun x => x)
                                           | exact rfl
                                           | (go_simp; exact ⟨rfl, rfl⟩)
                                       go_big_quiet_on))))
                        refine wpQuiet_nil ?_
                        intro W2 hC2
                        have HB2 := Lib.hid (HB1.out.keep hC2)
                        have HD2 := Lib.hid (HD1.out.keep hC2)
                        clear hC2
                        go_wp2_with fail
                        exact ⟨⟨i + 1, s2, D2, by omega, by go_num, HL2, HB2, HD2, HF2⟩, by simp [intOf]; try omega⟩
              · cases bi
                all_goals
                  clear HOK
                  go_upto_region 16 with fail
                  clear hci
                  go_wp2_with fail
                  go_loopw [10] (fun vn wr => ∃ (m : Nat) (z : Int), m ≤ i + 1 ∧ vn = .int .i64 z ∧ Hid (z = (m : Int) - 1) ∧ Hid (∀ q y, m ≤ q → q < i + 1 → l[q]? = some y → D2[q]? = some true → y.k ≠ x.k) ∧ Hid (Below W9.heap.size W9 wr)) (fun vn _ => (intOf vn + 1).toNat)
                  case atStart => exact ⟨i + 1, i, Nat.le_refl _, rfl, Lib.hid (by omega), Lib.hid (fun q y h h' => by omega), Lib.hid (Below.refl _ _)⟩
                  case round =>
                    obtain ⟨m, z, hm, rfl, HZ, HM, HBW⟩ := hrel
                    have HWr := Lib.hid (HW9.out.trans (HBW.out.mono HW9.out.size))
                    have HBr := Lib.hid (HB9.out.keep HBW.out)
                    have HDr := Lib.hid (HD9.out.keep HBW.out)
                    cases m with
                    | zero =>
                      exact (hit_none HL2.out (HGOT.out (by first | rfl | trivial)) HM.out).elim
                    | succ p =>
                      obtain rfl : z = (p : Int) := by have := HZ.out; omega
                      have hz0 : (0 : Int) ≤ (p : Int) := by omega
                      have hz1 : ¬ (p : Int) < 0 := by omega
                      have hpn : (p : Int) < (n : Int) := by omega
                      have hpi : p < i + 1 := by omega
                      have hL : l[p]? = some (l[p]'(by rw [HN.out]; omega)) := List.getElem?_eq_getElem _
                      generalize l[p]'(by rw [HN.out]; omega) = y at hL
                      have hD : D2[p]? = some (D2[p]'(by rw [HF2.out.1]; omega)) := List.getElem?_eq_getElem _
                      generalize D2[p]'(by rw [HF2.out.1]; omega) = b at hD
                      have HLY := Lib.hid hL
                      have HDY := Lib.hid hD
                      clear hL hD
                      have HY : Hid (∀ u, Below wr.heap.size wr u → u.cell? ⟨gD, p, none⟩ = some (.bool b) ∧ (g < u.heap.size ∧ u.cell? ⟨g, o + p * 6, none⟩ = some (.int .u8 y.kind) ∧ u.cell? ⟨g, o + p * 6 + 1, none⟩ = some (.int .i64 y.k.a) ∧ u.cell? ⟨g, o + p * 6 + 2, none⟩ = some (.int .i64 y.k.b) ∧ u.cell? ⟨g, o + p * 6 + 3, none⟩ = some (.int .i64 y.k.c) ∧ u.cell? ⟨g, o + p * 6 + 4, none⟩ = some (.int .u32 y.al) ∧ u.cell? ⟨g, o + p * 6 + 5, none⟩ = some (.int .i64 y.sq)) ∧ (g < u.heap.size ∧ u.cell? ⟨g, o + i * 6, none⟩ = some (.int .u8 x.kind) ∧ u.cell? ⟨g, o + i * 6 + 1, none⟩ = some (.int .i64 x.k.a) ∧ u.cell? ⟨g, o + i * 6 + 2, none⟩ = some (.int .i64 x.k.b) ∧ u.cell? ⟨g, o + i * 6 + 3, none⟩ = some (.int .i64 x.k.c) ∧ u.cell? ⟨g, o + i * 6 + 4, none⟩ = some (.int .u32 x.al) ∧ u.cell? ⟨g, o + i * 6 + 5, none⟩ = some (.int .i64 x.sq))) := Lib.hid (fun u hu => by
                        have hwu := HWr.out.trans (hu.mono HWr.out.size)
                        exact ⟨cellD (HDr.out.keep hu) HDY.out, (HP.out.below hwu).at6 rfl HLY.out, HROW0.out u hwu⟩)
                      cases b with
                      | false =>
                        go_upto_region 17 with fail
                        refine wp_region_kp (by kernel_rfl) (by kernel_rfl) ?_
                        repeat (first
                          | go_big_quiet_skip
                          | (go_big_quiet_want
                             first
                               | (go_big_quiet_op
                                  first
                                    | go_big_quiet_on
                                    | (apply Exists.intro
                                       refine ⟨fun w1 hC => ?_, ?_⟩
                                       · first
                                           | (obtain ⟨c0, ⟨-, y0, y1, y2, y3, y4, y5⟩, -, x0, x1, x2, x3, x4, x5⟩ := HY.out w1 hC; go_simp; exact ⟨rfl, rfl⟩)
                                           | (obtain ⟨c0, ⟨-, y0, y1, y2, y3, y4, y5⟩, -, x0, x1, x2, x3, x4, x5⟩ := HY.out w1 hC; go_simp; exact rfl)
                                           | exact rfl
                                           | (go_simp; exact ⟨rfl, rfl⟩)
                                       go_big_quiet_on))))
                        refine wpQuiet_nil ?_
                        intro W1 hC1
                        have HW1 := Lib.hid (HBW.out.trans (Below.mono hC1 HBW.out.size))
                        clear hC1
                        go_wp2_with fail
                        refine ⟨⟨p, (p : Int) - 1, by omega, by go_num, Lib.hid rfl, Lib.hid (fun q y' h h' hy hd => ?_), HW1⟩, by simp [intOf]; try omega⟩
                        by_cases e : q = p
                        · subst e; rw [HDY.out] at hd; simp at hd
                        · exact HM.out q y' (by omega) h' hy hd
                      | true =>
                        obtain ⟨sk, hsk⟩ : ∃ sk, sameK y.k x.k = sk := ⟨_, rfl⟩
                        have HSK := Lib.hid hsk
                        have HSM : Hid (∀ u, Calls Try.prog 21 #[.agg #[.int .u8 y.kind, .int .i64 y.k.a, .int .i64 y.k.b, .int .i64 y.k.c, .int .u32 y.al, .int .i64 y.sq], .agg #[.int .u8 x.kind, .int .i64 x.k.a, .int .i64 x.k.b, .int .i64 x.k.c, .int .u32 x.al, .int .i64 x.sq]] u fun e w' => e = .returned (.bool sk) ∧ Below u.heap.size u w') := Lib.hid (fun u => by
                          have := same_c y x u
                          rw [hsk] at this
                          exact this)
                        clear hsk
                        go_upto_region 17 with fail
                        refine wp_region_kp (by kernel_rfl) (by kernel_rfl) ?_
                        repeat (first
                          | go_big_quiet_skip
                          | (go_big_quiet_want
                             first
                               | (go_big_quiet_op
                                  first
                                    | go_big_quiet_on
                                    | (apply Exists.intro
                                       refine ⟨fun w1 hC => ?_, ?_⟩
                                       · first
                                           | (have hsm := hC.call (HSM.out _); go_at_call 21; with_reducible exact hsm)
                                           | (obtain ⟨c0, ⟨-, y0, y1, y2, y3, y4, y5⟩, -, x0, x1, x2, x3, x4, x5⟩ := HY.out w1 hC; go_simp; exact ⟨rfl, rfl⟩)
                                           | (obtain ⟨c0, ⟨-, y0, y1, y2, y3, y4, y5⟩, -, x0, x1, x2, x3, x4, x5⟩ := HY.out w1 hC; go_simp; exact rfl)
                                           | exact rfl
                                           | (go_simp; exact ⟨rfl, rfl⟩)
                                       go_big_quiet_on))))
                        refine wpQuiet_nil ?_
                        intro W1 hC1
                        have HW1 := Lib.hid (HBW.out.trans (Below.mono hC1 HBW.out.size))
                        have HC1 := Lib.hid hC1
                        clear hC1
                        cases sk
                        · go_wp2_with fail
                          refine ⟨⟨p, (p : Int) - 1, by omega, by go_num, Lib.hid rfl, Lib.hid (fun q y' h h' hy hd => ?_), HW1⟩, by simp [intOf]; try omega⟩
                          by_cases e : q = p
                          · subst e
                            rw [HLY.out] at hy
                            simp only [Option.some.injEq] at hy
                            subst hy
                            have := HSK.out
                            simpa [sameK] using this
                          · exact HM.out q y' (by omega) h' hy hd
                        · have HKK : Hid (y.k = x.k) := Lib.hid (by have := HSK.out; simpa [sameK] using this)
                          have HB1 := Lib.hid (HBr.out.keep HC1.out)
                          have HD1 := Lib.hid (HDr.out.keep HC1.out)
                          have hyd := hit_at HL2.out (HGOT.out (by first | rfl | trivial)) HM.out HLY.out HDY.out HKK.out hpi
                          subst hyd
                          have HBX1 := Lib.hid (HBX.out.keep HW1.out)
                          have HY1 : Hid (∀ u, Kp W1 u → (u.cell? ⟨gb, 0, none⟩ = some (.int .u32 y.al) ∧ u.cell? ⟨gb, 1, none⟩ = some (.int .u32 0) ∧ u.cell? ⟨gb, 2, none⟩ = some (.int .u32 0) ∧ u.cell? ⟨gb, 3, none⟩ = some (.bool false) ∧ u.cell? ⟨gb, 4, none⟩ = some (.int .i64 y.sq)) ∧ (g < u.heap.size ∧ u.cell? ⟨g, o + p * 6, none⟩ = some (.int .u8 y.kind) ∧ u.cell? ⟨g, o + p * 6 + 1, none⟩ = some (.int .i64 y.k.a) ∧ u.cell? ⟨g, o + p * 6 + 2, none⟩ = some (.int .i64 y.k.b) ∧ u.cell? ⟨g, o + p * 6 + 3, none⟩ = some (.int .i64 y.k.c) ∧ u.cell? ⟨g, o + p * 6 + 4, none⟩ = some (.int .u32 y.al) ∧ u.cell? ⟨g, o + p * 6 + 5, none⟩ = some (.int .i64 y.sq))) := Lib.hid (fun u hu => by
                            obtain ⟨d0, d1, d2, d3, d4, _⟩ := (HBX1.out.keep hu).cells5
                            exact ⟨⟨d0, d1, d2, d3, d4⟩, (HY.out u (Below.trans HC1.out (Below.mono hu (Below.size HC1.out)))).2.1⟩)
                          have hnq : ∀ u, (binOp .neq 42 (.agg #[.int .u32 y.al, .int .u32 0, .int .u32 0, .bool false, .int .i64 y.sq]) (.agg #[.int .u32 y.al, .int .u32 0, .int .u32 0, .bool false, .int .i64 y.sq])).run Try.prog u = .ok (.bool false) u := fun u => by
                            have := neqD y.d y.d u
                            rw [show sameD y.d y.d = true by simp [sameD]] at this
                            exact this
                          go_upto_region 19 with fail
                          refine wp_region_kp (by kernel_rfl) (by kernel_rfl) ?_
                          repeat (first
                            | go_big_quiet_skip
                            | (go_big_quiet_want
                               first
                                 | (go_big_quiet_op
                                    first
                                      | go_big_quiet_on
                                      | (apply Exists.intro
                                         refine ⟨fun w1 hC => ?_, ?_⟩
                                         · first
                                             | (have hdc := hC.call (decision_c y _); go_at_call 20; with_reducible exact hdc)
                                             | (obtain ⟨⟨d0, d1, d2, d3, d4⟩, -, y0, y1, y2, y3, y4, y5⟩ := HY1.out w1 hC; go_simp; exact ⟨rfl, rfl⟩)
                                             | (obtain ⟨⟨d0, d1, d2, d3, d4⟩, -, y0, y1, y2, y3, y4, y5⟩ := HY1.out w1 hC; go_simp; exact rfl)
                                             | exact rfl
                                             | (go_simp; exact ⟨rfl, rfl⟩)
                                         go_big_quiet_on))))
                          refine wpQuiet_nil ?_
                          intro W2 hC2
                          have HB2 := Lib.hid (HB1.out.keep hC2)
                          have HD2 := Lib.hid (HD1.out.keep hC2)
                          clear hC2
                          go_wp2_with fail
                          exact ⟨⟨i + 1, s2, D2, by omega, by go_num, HL2, HB2, HD2, HF2⟩, by simp [intOf]; try omega⟩
        · have HL2 := Lib.hid (HI.out.op (x := x) (by rw [HJ.out]; exact h1) HF0.out)
          have hq1 : (j == 1) = false := by simpa using h1
          have HPL := Lib.hid (play_st x HA.out (by omega) HWX.out)
          have HF2 : Hid (D.length = n ∧ ∀ q, i + 1 ≤ q → q < n → D[q]? = some false) := Lib.hid ⟨HF.out.1, fun q h1 h2 => HF.out.2 q (by omega) h2⟩
          go_upto_region 13 with (first | (go_at_call 15; refine HPL.out.mono ?_; rintro e wR ⟨rfl, h2, h3⟩; have HB := Lib.hid h2; have HDD := Lib.hid (h3.k _ _ _ oth_bool HD.out); clear h2 h3) | fail)
          clear x0 x1 x2 x3 x4 x5
          obtain ⟨bi, hbi⟩ : ∃ bi, bi = false := ⟨_, rfl⟩
          have HDI : Hid (D[i]? = some bi) := Lib.hid (by rw [hbi]; exact HF0.out)
          have HOK : Hid (bi = true → isC (doC s x) x.k = true) := Lib.hid (fun h => by rw [hbi] at h; cases h)
          clear hbi HPL HI HD HF HF0 HA HJ ht hk0 hk1 hq1 h1
          generalize D = D2 at *
          generalize doC s x = s2 at *
          have HRB := Lib.hid HB.out.b
          have HROW : Hid (∀ u d, gC wR (i + 1) s2 (findC s2 x.k) d u → g < u.heap.size ∧ u.cell? ⟨g, o + i * 6, none⟩ = some (.int .u8 x.kind) ∧ u.cell? ⟨g, o + i * 6 + 1, none⟩ = some (.int .i64 x.k.a) ∧ u.cell? ⟨g, o + i * 6 + 2, none⟩ = some (.int .i64 x.k.b) ∧ u.cell? ⟨g, o + i * 6 + 3, none⟩ = some (.int .i64 x.k.c) ∧ u.cell? ⟨g, o + i * 6 + 4, none⟩ = some (.int .u32 x.al) ∧ u.cell? ⟨g, o + i * 6 + 5, none⟩ = some (.int .i64 x.sq)) := Lib.hid (fun u d hu => HROW0.out u (HRB.out.trans (hu.b.mono HRB.out.size)))
          have HGOT : Hid (isC s2 x.k = true → (x.k, gotC s2 x.k) ∈ s2.L) := Lib.hid (fun h => got_mem h)
          obtain ⟨dv, hdv⟩ : ∃ dv, gotC s2 x.k = dv := ⟨_, rfl⟩
          obtain ⟨ok, hok⟩ : ∃ ok, isC s2 x.k = ok := ⟨_, rfl⟩
          have HFD : Hid (∀ k u, At wR u (fun _ => False) k (i + 1) s2 → Calls Try.prog 18 #[.pointer (some ⟨k, 0, none⟩), .int .i64 x.k.a, .int .i64 x.k.b, .int .i64 x.k.c] u fun e w' => e = .returned (.tuple #[.agg #[.int .u32 dv.al, .int .u32 dv.aa, .int .u32 dv.ad, .bool dv.pm, .int .i64 dv.sq], .bool ok]) ∧ At wR w' (fun _ => False) k (i + 1 + 1) (findC s2 x.k) ∧ StT u w') := Lib.hid (fun k u hu => by
            have := find_st x.k hu (by omega) HWX.out.k
            rw [hdv, hok] at this
            exact this)
          rw [hdv, hok] at HGOT
          rw [hok] at HOK
          clear hdv hok
          go_upto_region 13 with fail
          refine wp_region_lnk (gC wR (i + 1) s2 (findC s2 x.k)) (gR wR (i + 1) s2 (findC s2 x.k) dv) (gP wR (lsV c g o n capl i x dv ok) dv) (fun q => if q == 22 then some 8 else none) (by kernel_rfl) (by kernel_rfl) (by kernel_rfl) (gC_start (Below.refl _ _).drew rfl) (fun i d w w' hd hC hr => gC_step i d w w' hd hC hr) [] (by kernel_rfl) (fun _ _ _ _ _ hij _ h hr => gP_keep hij h hr) ?_ ?_
          · skip
            refine ⟨⟨trivial, fun A v d hd hC hF hW K Q hk => ?_⟩, ⟨trivial, fun A v d hd hC hF hW K Q hk => ?_⟩, ⟨trivial, fun A v d hd hC hF hW K Q hk => ?_⟩, ⟨trivial, fun A v d hd hC hF hW K Q hk => ?_⟩, ⟨trivial, fun A v d hd hC hF hW K Q hk => ?_⟩, ⟨trivial, fun A v d hd hC hF hW K Q hk => ?_⟩, ⟨trivial, fun A v d hd hC hF hW K Q hk => ?_⟩, ⟨trivial, fun A v d hd hC hF hW K Q hk => ?_⟩, ⟨trivial, fun A v d hd hC hF hW K Q hk => ?_⟩, ⟨trivial, fun A v d hd hC hF hW K Q hk => ?_⟩, ⟨trivial, fun A v d hd hC hF hW K Q hk => ?_⟩, ⟨trivial, fun A v d hd hC hF hW K Q hk => ?_⟩, ⟨trivial, fun A v d hd hC hF hW K Q hk => ?_⟩, ⟨trivial, fun A v d hd hC hF hW K Q hk => ?_⟩, ⟨trivial, fun A v d hd hC hF hW K Q hk => ?_⟩, ⟨trivial, fun A v d hd hC hF hW K Q hk => ?_⟩, ⟨trivial, fun A v d hd hC hF hW K Q hk => ?_⟩, ⟨trivial, fun A v d hd hC hF hW K Q hk => ?_⟩, ⟨trivial, fun A v d hd hC hF hW K Q hk => ?_⟩, ⟨trivial, fun A v d hd hC hF hW K Q hk => ?_⟩, ⟨trivial, fun A v d hd hC hF hW K Q hk => ?_⟩, ⟨trivial, fun A v d hd hC hF hW K Q hk => ?_⟩, ⟨trivial, fun A v d hd hC hF hW K Q hk => ?_⟩, ⟨trivial, fun A v d hd hC hF hW K Q hk => ?_⟩, trivial⟩
            · have f5 : A.tmps[5]?.getD undef = .pointer (some ⟨c, 0, none⟩) := fg_none (hF 5) (by kernel_rfl)
              refine Giv.wp (φ := gP wR (lsV c g o n capl i x dv ok) dv 0) ?_ hk
              unfold Giv
              go_simp
              exact giv_val (P := Try.prog) (gR_rfl (by decide) (by decide) (by decide) (by decide)) (gP_mk (by decide) (by decide) (by decide) rfl)
            · have f76 : A.tmps[76]?.getD undef = .pointer (some ⟨c, 0, none⟩) := gP_val (fg_some (hF 76) (j := 0) (by kernel_rfl) (by kernel_rfl)) (by decide) (by decide) (by decide) rfl
              refine Giv.wp (φ := gP wR (lsV c g o n capl i x dv ok) dv 1) ?_ hk
              unfold Giv
              go_simp
              exact giv_enter (P := Try.prog) ((copy_k (HB.out.keep hC.b)).mono fun e w2 ⟨he, h1⟩ => ⟨_, he, gR_copy h1, gP_copied hC hd h1⟩)
            · have f1 : A.tmps[1]?.getD undef = .slice (some ⟨g, o, none⟩) n capl := fg_none (hF 1) (by kernel_rfl)
              refine Giv.wp (φ := gP wR (lsV c g o n capl i x dv ok) dv 2) ?_ hk
              unfold Giv
              go_simp
              exact giv_val (P := Try.prog) (gR_rfl (by decide) (by decide) (by decide) (by decide)) (gP_mk (by decide) (by decide) (by decide) rfl)
            · have f7 : A.tmps[7]?.getD undef = .int .i64 i := fg_none (hF 7) (by kernel_rfl)
              refine Giv.wp (φ := gP wR (lsV c g o n capl i x dv ok) dv 3) ?_ hk
              unfold Giv
              go_simp
              exact giv_val (P := Try.prog) (gR_rfl (by decide) (by decide) (by decide) (by decide)) (gP_mk (by decide) (by decide) (by decide) rfl)
            · have f78 : A.tmps[78]?.getD undef = .slice (some ⟨g, o, none⟩) n capl := gP_val (fg_some (hF 78) (j := 2) (by kernel_rfl) (by kernel_rfl)) (by decide) (by decide) (by decide) rfl
              have f79 : A.tmps[79]?.getD undef = .int .i64 i := gP_val (fg_some (hF 79) (j := 3) (by kernel_rfl) (by kernel_rfl)) (by decide) (by decide) (by decide) rfl
              refine Giv.wp (φ := gP wR (lsV c g o n capl i x dv ok) dv 4) ?_ hk
              unfold Giv
              go_simp
              exact giv_val (P := Try.prog) (gR_rfl (by decide) (by decide) (by decide) (by decide)) (gP_mk (by decide) (by decide) (by decide) rfl)
            · have f80 : A.tmps[80]?.getD undef = .pointer (some ⟨g, o + i * 6, none⟩) := gP_val (fg_some (hF 80) (j := 4) (by kernel_rfl) (by kernel_rfl)) (by decide) (by decide) (by decide) rfl
              refine Giv.wp (φ := gP wR (lsV c g o n capl i x dv ok) dv 5) ?_ hk
              unfold Giv
              go_simp
              exact giv_val (P := Try.prog) (gR_rfl (by decide) (by decide) (by decide) (by decide)) (gP_mk (by decide) (by decide) (by decide) rfl)
            · have f81 : A.tmps[81]?.getD undef = .pointer (some ⟨g, o + i * 6 + 1, none⟩) := gP_val (fg_some (hF 81) (j := 5) (by kernel_rfl) (by kernel_rfl)) (by decide) (by decide) (by decide) rfl
              obtain ⟨-, y0, y1, y2, y3, y4, y5⟩ := HROW.out v d hC
              refine Giv.wp (φ := gP wR (lsV c g o n capl i x dv ok) dv 6) ?_ hk
              unfold Giv
              go_simp
              exact giv_val (P := Try.prog) (gR_rfl (by decide) (by decide) (by decide) (by decide)) (gP_mk (by decide) (by decide) (by decide) rfl)
            · have f1 : A.tmps[1]?.getD undef = .slice (some ⟨g, o, none⟩) n capl := fg_none (hF 1) (by kernel_rfl)
              refine Giv.wp (φ := gP wR (lsV c g o n capl i x dv ok) dv 7) ?_ hk
              unfold Giv
              go_simp
              exact giv_val (P := Try.prog) (gR_rfl (by decide) (by decide) (by decide) (by decide)) (gP_mk (by decide) (by decide) (by decide) rfl)
            · have f7 : A.tmps[7]?.getD undef = .int .i64 i := fg_none (hF 7) (by kernel_rfl)
              refine Giv.wp (φ := gP wR (lsV c g o n capl i x dv ok) dv 8) ?_ hk
              unfold Giv
              go_simp
              exact giv_val (P := Try.prog) (gR_rfl (by decide) (by decide) (by decide) (by decide)) (gP_mk (by decide) (by decide) (by decide) rfl)
            · have f83 : A.tmps[83]?.getD undef = .slice (some ⟨g, o, none⟩) n capl := gP_val (fg_some (hF 83) (j := 7) (by kernel_rfl) (by kernel_rfl)) (by decide) (by decide) (by decide) rfl
              have f84 : A.tmps[84]?.getD undef = .int .i64 i := gP_val (fg_some (hF 84) (j := 8) (by kernel_rfl) (by kernel_rfl)) (by decide) (by decide) (by decide) rfl
              refine Giv.wp (φ := gP wR (lsV c g o n capl i x dv ok) dv 9) ?_ hk
              unfold Giv
              go_simp
              exact giv_val (P := Try.prog) (gR_rfl (by decide) (by decide) (by decide) (by decide)) (gP_mk (by decide) (by decide) (by decide) rfl)
            · have f85 : A.tmps[85]?.getD undef = .pointer (some ⟨g, o + i * 6, none⟩) := gP_val (fg_some (hF 85) (j := 9) (by kernel_rfl) (by kernel_rfl)) (by decide) (by decide) (by decide) rfl
              refine Giv.wp (φ := gP wR (lsV c g o n capl i x dv ok) dv 10) ?_ hk
              unfold Giv
              go_simp
              exact giv_val (P := Try.prog) (gR_rfl (by decide) (by decide) (by decide) (by decide)) (gP_mk (by decide) (by decide) (by decide) rfl)
            · have f86 : A.tmps[86]?.getD undef = .pointer (some ⟨g, o + i * 6 + 2, none⟩) := gP_val (fg_some (hF 86) (j := 10) (by kernel_rfl) (by kernel_rfl)) (by decide) (by decide) (by decide) rfl
              obtain ⟨-, y0, y1, y2, y3, y4, y5⟩ := HROW.out v d hC
              refine Giv.wp (φ := gP wR (lsV c g o n capl i x dv ok) dv 11) ?_ hk
              unfold Giv
              go_simp
              exact giv_val (P := Try.prog) (gR_rfl (by decide) (by decide) (by decide) (by decide)) (gP_mk (by decide) (by decide) (by decide) rfl)
            · have f1 : A.tmps[1]?.getD undef = .slice (some ⟨g, o, none⟩) n capl := fg_none (hF 1) (by kernel_rfl)
              refine Giv.wp (φ := gP wR (lsV c g o n capl i x dv ok) dv 12) ?_ hk
              unfold Giv
              go_simp
              exact giv_val (P := Try.prog) (gR_rfl (by decide) (by decide) (by decide) (by decide)) (gP_mk (by decide) (by decide) (by decide) rfl)
            · have f7 : A.tmps[7]?.getD undef = .int .i64 i := fg_none (hF 7) (by kernel_rfl)
              refine Giv.wp (φ := gP wR (lsV c g o n capl i x dv ok) dv 13) ?_ hk
              unfold Giv
              go_simp
              exact giv_val (P := Try.prog) (gR_rfl (by decide) (by decide) (by decide) (by decide)) (gP_mk (by decide) (by decide) (by decide) rfl)
            · have f88 : A.tmps[88]?.getD undef = .slice (some ⟨g, o, none⟩) n capl := gP_val (fg_some (hF 88) (j := 12) (by kernel_rfl) (by kernel_rfl)) (by decide) (by decide) (by decide) rfl
              have f89 : A.tmps[89]?.getD undef = .int .i64 i := gP_val (fg_some (hF 89) (j := 13) (by kernel_rfl) (by kernel_rfl)) (by decide) (by decide) (by decide) rfl
              refine Giv.wp (φ := gP wR (lsV c g o n capl i x dv ok) dv 14) ?_ hk
              unfold Giv
              go_simp
              exact giv_val (P := Try.prog) (gR_rfl (by decide) (by decide) (by decide) (by decide)) (gP_mk (by decide) (by decide) (by decide) rfl)
            · have f90 : A.tmps[90]?.getD undef = .pointer (some ⟨g, o + i * 6, none⟩) := gP_val (fg_some (hF 90) (j := 14) (by kernel_rfl) (by kernel_rfl)) (by decide) (by decide) (by decide) rfl
              refine Giv.wp (φ := gP wR (lsV c g o n capl i x dv ok) dv 15) ?_ hk
              unfold Giv
              go_simp
              exact giv_val (P := Try.prog) (gR_rfl (by decide) (by decide) (by decide) (by decide)) (gP_mk (by decide) (by decide) (by decide) rfl)
            · have f91 : A.tmps[91]?.getD undef = .pointer (some ⟨g, o + i * 6 + 3, none⟩) := gP_val (fg_some (hF 91) (j := 15) (by kernel_rfl) (by kernel_rfl)) (by decide) (by decide) (by decide) rfl
              obtain ⟨-, y0, y1, y2, y3, y4, y5⟩ := HROW.out v d hC
              refine Giv.wp (φ := gP wR (lsV c g o n capl i x dv ok) dv 16) ?_ hk
              unfold Giv
              go_simp
              exact giv_val (P := Try.prog) (gR_rfl (by decide) (by decide) (by decide) (by decide)) (gP_mk (by decide) (by decide) (by decide) rfl)
            · obtain ⟨k, f77, hpk⟩ := gP_copy (fg_some (hF 77) (j := 1) (by kernel_rfl) (by kernel_rfl))
              have f82 : A.tmps[82]?.getD undef = .int .i64 x.k.a := gP_val (fg_some (hF 82) (j := 6) (by kernel_rfl) (by kernel_rfl)) (by decide) (by decide) (by decide) rfl
              have f87 : A.tmps[87]?.getD undef = .int .i64 x.k.b := gP_val (fg_some (hF 87) (j := 11) (by kernel_rfl) (by kernel_rfl)) (by decide) (by decide) (by decide) rfl
              have f92 : A.tmps[92]?.getD undef = .int .i64 x.k.c := gP_val (fg_some (hF 92) (j := 16) (by kernel_rfl) (by kernel_rfl)) (by decide) (by decide) (by decide) rfl
              refine Giv.wp (φ := gP wR (lsV c g o n capl i x dv ok) dv 17) ?_ hk
              unfold Giv
              go_simp
              exact giv_enter (P := Try.prog) ((HFD.out k v (hC.at hd hpk)).mono fun e w2 ⟨he, h1, h2⟩ => ⟨_, he, gR_find hpk h1 h2, gP_mk (by decide) (by decide) (by decide) rfl⟩)
            · have f93 : A.tmps[93]?.getD undef = .tuple #[.agg #[.int .u32 dv.al, .int .u32 dv.aa, .int .u32 dv.ad, .bool dv.pm, .int .i64 dv.sq], .bool ok] := gP_val (fg_some (hF 93) (j := 17) (by kernel_rfl) (by kernel_rfl)) (by decide) (by decide) (by decide) rfl
              refine Giv.wp (φ := gP wR (lsV c g o n capl i x dv ok) dv 18) ?_ hk
              unfold Giv
              go_simp
              exact giv_val (P := Try.prog) (gR_rfl (by decide) (by decide) (by decide) (by decide)) (gP_mk (by decide) (by decide) (by decide) rfl)
            · have f75 : A.tmps[75]?.getD undef = .tuple #[.agg #[.int .u32 dv.al, .int .u32 dv.aa, .int .u32 dv.ad, .bool dv.pm, .int .i64 dv.sq], .bool ok] := gP_val (fg_some (hF 75) (j := 18) (by kernel_rfl) (by kernel_rfl)) (by decide) (by decide) (by decide) rfl
              refine Giv.wp (φ := gP wR (lsV c g o n capl i x dv ok) dv 19) ?_ hk
              unfold Giv
              go_simp
              exact giv_val (P := Try.prog) (gR_rfl (by decide) (by decide) (by decide) (by decide)) (gP_mk (by decide) (by decide) (by decide) rfl)
            · have f75 : A.tmps[75]?.getD undef = .tuple #[.agg #[.int .u32 dv.al, .int .u32 dv.aa, .int .u32 dv.ad, .bool dv.pm, .int .i64 dv.sq], .bool ok] := gP_val (fg_some (hF 75) (j := 18) (by kernel_rfl) (by kernel_rfl)) (by decide) (by decide) (by decide) rfl
              refine Giv.wp (φ := gP wR (lsV c g o n capl i x dv ok) dv 20) ?_ hk
              unfold Giv
              go_simp
              exact giv_val (P := Try.prog) (gR_rfl (by decide) (by decide) (by decide) (by decide)) (gP_mk (by decide) (by decide) (by decide) rfl)
            · refine Giv.wp (φ := gP wR (lsV c g o n capl i x dv ok) dv 21) ?_ hk
              unfold Giv
              go_simp
              exact giv_val (P := Try.prog) gR_box (by unfold gP; rw [if_neg (by decide), if_pos rfl]; exact ⟨_, Dc.z, rfl, hC.b.size, Blk.new _ _ _⟩)
            · obtain ⟨gb, xb, f8, hgb, hbb⟩ := gP_box (fg_some (hF 8) (j := 21) (by kernel_rfl) (by kernel_rfl))
              have f94 : A.tmps[94]?.getD undef = .agg #[.int .u32 dv.al, .int .u32 dv.aa, .int .u32 dv.ad, .bool dv.pm, .int .i64 dv.sq] := gP_val (fg_some (hF 94) (j := 19) (by kernel_rfl) (by kernel_rfl)) (by decide) (by decide) (by decide) rfl
              have e8 : A.eval (.tmp 8) = .pointer (some ⟨gb, 0, none⟩) := by rw [← f8]; simp [Act.eval]
              obtain ⟨r0, r1, r2, r3, r4, z0, z1, z2, z3, z4⟩ := Blk.cells5 hbb
              refine Giv.wp (φ := fun _ w2 => gP wR (lsV c g o n capl i x dv ok) dv 22 (A.eval (.tmp 8)) w2) ?_ hk
              rw [e8]
              unfold Giv
              go_simp
              first | exact giv_skip (P := Try.prog) (gR_fill hgb hbb) (by unfold gP; rw [if_neg (by decide), if_neg (by decide), if_pos rfl]; exact ⟨gb, rfl, hgb, set5_blk hbb dv⟩) | exact giv_val (P := Try.prog) (gR_fill hgb hbb) (by unfold gP; rw [if_neg (by decide), if_neg (by decide), if_pos rfl]; exact ⟨gb, rfl, hgb, set5_blk hbb dv⟩)
            · have f95 : A.tmps[95]?.getD undef = .bool ok := gP_val (fg_some (hF 95) (j := 20) (by kernel_rfl) (by kernel_rfl)) (by decide) (by decide) (by decide) rfl
              refine Giv.wp (φ := gP wR (lsV c g o n capl i x dv ok) dv 23) ?_ hk
              unfold Giv
              go_simp
              exact giv_val (P := Try.prog) (gR_rfl (by decide) (by decide) (by decide) (by decide)) (gP_mk (by decide) (by decide) (by decide) rfl)
          · intro a0 W9 d hsd hC hsz hdf hF hL
            have hb9 := hC.b
            have ha := end_gen [false, false, false, false, false, false, false, false, true, true, false, false, false, false, false, false, false, false, false, false, false, false, false, false, false, false, false, false, false, false, false, false, false, false, false, false, false, false, false, false, false, false, false, false, false, false, false, false, false, false, false, false, false, false, false, false, false, false, false, false, false, false, false, false, false, false, false, false, false, false, false, false, false, false, false, true, true, true, true, true, true, true, true, true, true, true, true, true, true, true, true, true, true, true, true, true] hsz hdf hF (by kernel_rfl)
            have f9 : a0.tmps[9]?.getD undef = .bool ok := gP_val (fe_some (hF 9) (j := 23) (by kernel_rfl)) (by decide) (by decide) (by decide) rfl
            obtain ⟨gb, f8, hgb, hbb⟩ := gP_full (fl_link hL (j := 22) rfl rfl rfl)
            rw [ha]
            clear ha hF hL hsd hC
            simp only [cutM_yes, cutM_no, cutM_nil, Nat.reduceAdd]
            rw [f9, f8]
            clear f9 f8
            generalize a0.tmps[75]?.getD undef = s75
            generalize a0.tmps[76]?.getD undef = s76
            generalize a0.tmps[77]?.getD undef = s77
            generalize a0.tmps[78]?.getD undef = s78
            generalize a0.tmps[79]?.getD undef = s79
            generalize a0.tmps[80]?.getD undef = s80
            generalize a0.tmps[81]?.getD undef = s81
            generalize a0.tmps[82]?.getD undef = s82
            generalize a0.tmps[83]?.getD undef = s83
            generalize a0.tmps[84]?.getD undef = s84
            generalize a0.tmps[85]?.getD undef = s85
            generalize a0.tmps[86]?.getD undef = s86
            generalize a0.tmps[87]?.getD undef = s87
            generalize a0.tmps[88]?.getD undef = s88
            generalize a0.tmps[89]?.getD undef = s89
            generalize a0.tmps[90]?.getD undef = s90
            generalize a0.tmps[91]?.getD undef = s91
            generalize a0.tmps[92]?.getD undef = s92
            generalize a0.tmps[93]?.getD undef = s93
            generalize a0.tmps[94]?.getD undef = s94
            generalize a0.tmps[95]?.getD undef = s95
            clear hsz hdf hgb HFD HROW
            have HBX := Lib.hid hbb
            have HB9 := Lib.hid (HB.out.keep hb9)
            have HD9 := Lib.hid (HDD.out.keep hb9)
            have HW9 := Lib.hid (HB9.out.b)
            clear hbb hb9 HB HDD HRB
            have hci := cellD HD9.out HDI.out
            cases ok
            · obtain rfl : bi = false := by cases bi <;> first | rfl | exact absurd (HOK.out rfl) (by decide)
              clear HOK HGOT
              go_upto_region 16 with fail
              clear hci
              go_wp2_with fail
              go_loopw [10] (fun vn wr => ∃ (m : Nat) (z : Int), m ≤ i + 1 ∧ vn = .int .i64 z ∧ Hid (z = (m : Int) - 1) ∧ Hid (∀ q y, m ≤ q → q < i + 1 → l[q]? = some y → D2[q]? = some true → y.k ≠ x.k) ∧ Hid (Below W9.heap.size W9 wr)) (fun vn _ => (intOf vn + 1).toNat)
              case atStart => exact ⟨i + 1, i, Nat.le_refl _, rfl, Lib.hid (by omega), Lib.hid (fun q y h h' => by omega), Lib.hid (Below.refl _ _)⟩
              case round =>
                obtain ⟨m, z, hm, rfl, HZ, HM, HBW⟩ := hrel
                have HWr := Lib.hid (HW9.out.trans (HBW.out.mono HW9.out.size))
                have HBr := Lib.hid (HB9.out.keep HBW.out)
                have HDr := Lib.hid (HD9.out.keep HBW.out)
                cases m with
                | zero =>
                  have hz0 : ¬ (0 : Int) ≤ z := by have := HZ.out; omega
                  have hz1 : z < 0 := by have := HZ.out; omega
                  go_upto_region 17 with fail
                  refine wp_region_kp (by kernel_rfl) (by kernel_rfl) ?_
                  repeat (first
                    | go_big_quiet_skip
                    | (go_big_quiet_want
                       first
                         | (go_big_quiet_op
                            first
                              | go_big_quiet_on
                              | (apply Exists.intro
                                 refine ⟨fun w1 hC => ?_, ?_⟩
                                 · first
                                     | (exact fun x => x)
                                     | exact rfl
                                     | (go_simp; exact ⟨rfl, rfl⟩)
                                 go_big_quiet_on))))
                  refine wpQuiet_nil ?_
                  intro W1 hC1
                  have HB1 := Lib.hid (HBr.out.keep hC1)
                  have HD1 := Lib.hid (HDr.out.keep hC1)
                  clear hC1
                  go_upto_region 19 with fail
                  refine wp_region_kp (by kernel_rfl) (by kernel_rfl) ?_
                  repeat (first
                    | go_big_quiet_skip
                    | (go_big_quiet_want
                       first
                         | (go_big_quiet_op
                            first
                              | go_big_quiet_on
                              | (apply Exists.intro
                                 refine ⟨fun w1 hC => ?_, ?_⟩
                                 · first
                                     | (exact fun x => x)
                                     | exact rfl
                                     | (go_simp; exact ⟨rfl, rfl⟩)
                                 go_big_quiet_on))))
                  refine wpQuiet_nil ?_
                  intro W2 hC2
                  have HB2 := Lib.hid (HB1.out.keep hC2)
                  have HD2 := Lib.hid (HD1.out.keep hC2)
                  clear hC2
                  go_wp2_with fail
                  exact ⟨⟨i + 1, s2, D2, by omega, by go_num, HL2, HB2, HD2, HF2⟩, by simp [intOf]; try omega⟩
                | succ p =>
                  obtain rfl : z = (p : Int) := by have := HZ.out; omega
                  have hz0 : (0 : Int) ≤ (p : Int) := by omega
                  have hz1 : ¬ (p : Int) < 0 := by omega
                  have hpn : (p : Int) < (n : Int) := by omega
                  have hpi : p < i + 1 := by omega
                  have hL : l[p]? = some (l[p]'(by rw [HN.out]; omega)) := List.getElem?_eq_getElem _
                  generalize l[p]'(by rw [HN.out]; omega) = y at hL
                  have hD : D2[p]? = some (D2[p]'(by rw [HF2.out.1]; omega)) := List.getElem?_eq_getElem _
                  generalize D2[p]'(by rw [HF2.out.1]; omega) = b at hD
                  have HLY := Lib.hid hL
                  have HDY := Lib.hid hD
                  clear hL hD
                  have HY : Hid (∀ u, Below wr.heap.size wr u → u.cell? ⟨gD, p, none⟩ = some (.bool b) ∧ (g < u.heap.size ∧ u.cell? ⟨g, o + p * 6, none⟩ = some (.int .u8 y.kind) ∧ u.cell? ⟨g, o + p * 6 + 1, none⟩ = some (.int .i64 y.k.a) ∧ u.cell? ⟨g, o + p * 6 + 2, none⟩ = some (.int .i64 y.k.b) ∧ u.cell? ⟨g, o + p * 6 + 3, none⟩ = some (.int .i64 y.k.c) ∧ u.cell? ⟨g, o + p * 6 + 4, none⟩ = some (.int .u32 y.al) ∧ u.cell? ⟨g, o + p * 6 + 5, none⟩ = some (.int .i64 y.sq)) ∧ (g < u.heap.size ∧ u.cell? ⟨g, o + i * 6, none⟩ = some (.int .u8 x.kind) ∧ u.cell? ⟨g, o + i * 6 + 1, none⟩ = some (.int .i64 x.k.a) ∧ u.cell? ⟨g, o + i * 6 + 2, none⟩ = some (.int .i64 x.k.b) ∧ u.cell? ⟨g, o + i * 6 + 3, none⟩ = some (.int .i64 x.k.c) ∧ u.cell? ⟨g, o + i * 6 + 4, none⟩ = some (.int .u32 x.al) ∧ u.cell? ⟨g, o + i * 6 + 5, none⟩ = some (.int .i64 x.sq))) := Lib.hid (fun u hu => by
                    have hwu := HWr.out.trans (hu.mono HWr.out.size)
                    exact ⟨cellD (HDr.out.keep hu) HDY.out, (HP.out.below hwu).at6 rfl HLY.out, HROW0.out u hwu⟩)
                  cases b with
                  | false =>
                    go_upto_region 17 with fail
                    refine wp_region_kp (by kernel_rfl) (by kernel_rfl) ?_
                    repeat (first
                      | go_big_quiet_skip
                      | (go_big_quiet_want
                         first
                           | (go_big_quiet_op
                              first
                                | go_big_quiet_on
                                | (apply Exists.intro
                                   refine ⟨fun w1 hC => ?_, ?_⟩
                                   · first
                                       | (obtain ⟨c0, ⟨-, y0, y1, y2, y3, y4, y5⟩, -, x0, x1, x2, x3, x4, x5⟩ := HY.out w1 hC; go_simp; exact ⟨rfl, rfl⟩)
                                       | (obtain ⟨c0, ⟨-, y0, y1, y2, y3, y4, y5⟩, -, x0, x1, x2, x3, x4, x5⟩ := HY.out w1 hC; go_simp; exact rfl)
                                       | exact rfl
                                       | (go_simp; exact ⟨rfl, rfl⟩)
                                   go_big_quiet_on))))
                    refine wpQuiet_nil ?_
                    intro W1 hC1
                    have HW1 := Lib.hid (HBW.out.trans (Below.mono hC1 HBW.out.size))
                    clear hC1
                    go_wp2_with fail
                    refine ⟨⟨p, (p : Int) - 1, by omega, by go_num, Lib.hid rfl, Lib.hid (fun q y' h h' hy hd => ?_), HW1⟩, by simp [intOf]; try omega⟩
                    by_cases e : q = p
                    · subst e; rw [HDY.out] at hd; simp at hd
                    · exact HM.out q y' (by omega) h' hy hd
                  | true =>
                    obtain ⟨sk, hsk⟩ : ∃ sk, sameK y.k x.k = sk := ⟨_, rfl⟩
                    have HSK := Lib.hid hsk
                    have HSM : Hid (∀ u, Calls Try.prog 21 #[.agg #[.int .u8 y.kind, .int .i64 y.k.a, .int .i64 y.k.b, .int .i64 y.k.c, .int .u32 y.al, .int .i64 y.sq], .agg #[.int .u8 x.kind, .int .i64 x.k.a, .int .i64 x.k.b, .int .i64 x.k.c, .int .u32 x.al, .int .i64 x.sq]] u fun e w' => e = .returned (.bool sk) ∧ Below u.heap.size u w') := Lib.hid (fun u => by
                      have := same_c y x u
                      rw [hsk] at this
                      exact this)
                    clear hsk
                    go_upto_region 17 with fail
                    refine wp_region_kp (by kernel_rfl) (by kernel_rfl) ?_
                    repeat (first
                      | go_big_quiet_skip
                      | (go_big_quiet_want
                         first
                           | (go_big_quiet_op
                              first
                                | go_big_quiet_on
                                | (apply Exists.intro
                                   refine ⟨fun w1 hC => ?_, ?_⟩
                                   · first
                                       | (have hsm := hC.call (HSM.out _); go_at_call 21; with_reducible exact hsm)
                                       | (obtain ⟨c0, ⟨-, y0, y1, y2, y3, y4, y5⟩, -, x0, x1, x2, x3, x4, x5⟩ := HY.out w1 hC; go_simp; exact ⟨rfl, rfl⟩)
                                       | (obtain ⟨c0, ⟨-, y0, y1, y2, y3, y4, y5⟩, -, x0, x1, x2, x3, x4, x5⟩ := HY.out w1 hC; go_simp; exact rfl)
                                       | exact rfl
                                       | (go_simp; exact ⟨rfl, rfl⟩)
                                   go_big_quiet_on))))
                    refine wpQuiet_nil ?_
                    intro W1 hC1
                    have HW1 := Lib.hid (HBW.out.trans (Below.mono hC1 HBW.out.size))
                    have HC1 := Lib.hid hC1
                    clear hC1
                    cases sk
                    · go_wp2_with fail
                      refine ⟨⟨p, (p : Int) - 1, by omega, by go_num, Lib.hid rfl, Lib.hid (fun q y' h h' hy hd => ?_), HW1⟩, by simp [intOf]; try omega⟩
                      by_cases e : q = p
                      · subst e
                        rw [HLY.out] at hy
                        simp only [Option.some.injEq] at hy
                        subst hy
                        have := HSK.out
                        simpa [sameK] using this
                      · exact HM.out q y' (by omega) h' hy hd
                    · have HKK : Hid (y.k = x.k) := Lib.hid (by have := HSK.out; simpa [sameK] using this)
                      have HB1 := Lib.hid (HBr.out.keep HC1.out)
                      have HD1 := Lib.hid (HDr.out.keep HC1.out)
                      go_upto_region 19 with fail
                      refine wp_region_kp (by kernel_rfl) (by kernel_rfl) ?_
                      repeat (first
                        | go_big_quiet_skip
                        | (go_big_quiet_want
                           first
                             | (go_big_quiet_op
                                first
                                  | go_big_quiet_on
                                  | (apply Exists.intro
                                     refine ⟨fun w1 hC => ?_, ?_⟩
                                     · first
                                         | (exact fun x => x)
                                         | exact rfl
                                         | (go_simp; exact ⟨rfl, rfl⟩)
                                     go_big_quiet_on))))
                      refine wpQuiet_nil ?_
                      intro W2 hC2
                      have HB2 := Lib.hid (HB1.out.keep hC2)
                      have HD2 := Lib.hid (HD1.out.keep hC2)
                      clear hC2
                      go_wp2_with fail
                      exact ⟨⟨i + 1, s2, D2, by omega, by go_num, HL2, HB2, HD2, HF2⟩, by simp [intOf]; try omega⟩
            · cases bi
              all_goals
                clear HOK
                go_upto_region 16 with fail
                clear hci
                go_wp2_with fail
                go_loopw [10] (fun vn wr => ∃ (m : Nat) (z : Int), m ≤ i + 1 ∧ vn = .int .i64 z ∧ Hid (z = (m : Int) - 1) ∧ Hid (∀ q y, m ≤ q → q < i + 1 → l[q]? = some y → D2[q]? = some true → y.k ≠ x.k) ∧ Hid (Below W9.heap.size W9 wr)) (fun vn _ => (intOf vn + 1).toNat)
                case atStart => exact ⟨i + 1, i, Nat.le_refl _, rfl, Lib.hid (by omega), Lib.hid (fun q y h h' => by omega), Lib.hid (Below.refl _ _)⟩
                case round =>
                  obtain ⟨m, z, hm, rfl, HZ, HM, HBW⟩ := hrel
                  have HWr := Lib.hid (HW9.out.trans (HBW.out.mono HW9.out.size))
                  have HBr := Lib.hid (HB9.out.keep HBW.out)
                  have HDr := Lib.hid (HD9.out.keep HBW.out)
                  cases m with
                  | zero =>
                    exact (hit_none HL2.out (HGOT.out (by first | rfl | trivial)) HM.out).elim
                  | succ p =>
                    obtain rfl : z = (p : Int) := by have := HZ.out; omega
                    have hz0 : (0 : Int) ≤ (p : Int) := by omega
                    have hz1 : ¬ (p : Int) < 0 := by omega
                    have hpn : (p : Int) < (n : Int) := by omega
                    have hpi : p < i + 1 := by omega
                    have hL : l[p]? = some (l[p]'(by rw [HN.out]; omega)) := List.getElem?_eq_getElem _
                    generalize l[p]'(by rw [HN.out]; omega) = y at hL
                    have hD : D2[p]? = some (D2[p]'(by rw [HF2.out.1]; omega)) := List.getElem?_eq_getElem _
                    generalize D2[p]'(by rw [HF2.out.1]; omega) = b at hD
                    have HLY := Lib.hid hL
                    have HDY := Lib.hid hD
                    clear hL hD
                    have HY : Hid (∀ u, Below wr.heap.size wr u → u.cell? ⟨gD, p, none⟩ = some (.bool b) ∧ (g < u.heap.size ∧ u.cell? ⟨g, o + p * 6, none⟩ = some (.int .u8 y.kind) ∧ u.cell? ⟨g, o + p * 6 + 1, none⟩ = some (.int .i64 y.k.a) ∧ u.cell? ⟨g, o + p * 6 + 2, none⟩ = some (.int .i64 y.k.b) ∧ u.cell? ⟨g, o + p * 6 + 3, none⟩ = some (.int .i64 y.k.c) ∧ u.cell? ⟨g, o + p * 6 + 4, none⟩ = some (.int .u32 y.al) ∧ u.cell? ⟨g, o + p * 6 + 5, none⟩ = some (.int .i64 y.sq)) ∧ (g < u.heap.size ∧ u.cell? ⟨g, o + i * 6, none⟩ = some (.int .u8 x.kind) ∧ u.cell? ⟨g, o + i * 6 + 1, none⟩ = some (.int .i64 x.k.a) ∧ u.cell? ⟨g, o + i * 6 + 2, none⟩ = some (.int .i64 x.k.b) ∧ u.cell? ⟨g, o + i * 6 + 3, none⟩ = some (.int .i64 x.k.c) ∧ u.cell? ⟨g, o + i * 6 + 4, none⟩ = some (.int .u32 x.al) ∧ u.cell? ⟨g, o + i * 6 + 5, none⟩ = some (.int .i64 x.sq))) := Lib.hid (fun u hu => by
                      have hwu := HWr.out.trans (hu.mono HWr.out.size)
                      exact ⟨cellD (HDr.out.keep hu) HDY.out, (HP.out.below hwu).at6 rfl HLY.out, HROW0.out u hwu⟩)
                    cases b with
                    | false =>
                      go_upto_region 17 with fail
                      refine wp_region_kp (by kernel_rfl) (by kernel_rfl) ?_
                      repeat (first
                        | go_big_quiet_skip
                        | (go_big_quiet_want
                           first
                             | (go_big_quiet_op
                                first
                                  | go_big_quiet_on
                                  | (apply Exists.intro
                                     refine ⟨fun w1 hC => ?_, ?_⟩
                                     · first
                                         | (obtain ⟨c0, ⟨-, y0, y1, y2, y3, y4, y5⟩, -, x0, x1, x2, x3, x4, x5⟩ := HY.out w1 hC; go_simp; exact ⟨rfl, rfl⟩)
                                         | (obtain ⟨c0, ⟨-, y0, y1, y2, y3, y4, y5⟩, -, x0, x1, x2, x3, x4, x5⟩ := HY.out w1 hC; go_simp; exact rfl)
                                         | exact rfl
                                         | (go_simp; exact ⟨rfl, rfl⟩)
                                     go_big_quiet_on))))
                      refine wpQuiet_nil ?_
                      intro W1 hC1
                      have HW1 := Lib.hid (HBW.out.trans (Below.mono hC1 HBW.out.size))
                      clear hC1
                      go_wp2_with fail
                      refine ⟨⟨p, (p : Int) - 1, by omega, by go_num, Lib.hid rfl, Lib.hid (fun q y' h h' hy hd => ?_), HW1⟩, by simp [intOf]; try omega⟩
                      by_cases e : q = p
                      · subst e; rw [HDY.out] at hd; simp at hd
                      · exact HM.out q y' (by omega) h' hy hd
                    | true =>
                      obtain ⟨sk, hsk⟩ : ∃ sk, sameK y.k x.k = sk := ⟨_, rfl⟩
                      have HSK := Lib.hid hsk
                      have HSM : Hid (∀ u, Calls Try.prog 21 #[.agg #[.int .u8 y.kind, .int .i64 y.k.a, .int .i64 y.k.b, .int .i64 y.k.c, .int .u32 y.al, .int .i64 y.sq], .agg #[.int .u8 x.kind, .int .i64 x.k.a, .int .i64 x.k.b, .int .i64 x.k.c, .int .u32 x.al, .int .i64 x.sq]] u fun e w' => e = .returned (.bool sk) ∧ Below u.heap.size u w') := Lib.hid (fun u => by
                        have := same_c y x u
                        rw [hsk] at this
                        exact this)
                      clear hsk
                      go_upto_region 17 with fail
                      refine wp_region_kp (by kernel_rfl) (by kernel_rfl) ?_
                      repeat (first
                        | go_big_quiet_skip
                        | (go_big_quiet_want
                           first
                             | (go_big_quiet_op
                                first
                                  | go_big_quiet_on
                                  | (apply Exists.intro
                                     refine ⟨fun w1 hC => ?_, ?_⟩
                                     · first
                                         | (have hsm := hC.call (HSM.out _); go_at_call 21; with_reducible exact hsm)
                                         | (obtain ⟨c0, ⟨-, y0, y1, y2, y3, y4, y5⟩, -, x0, x1, x2, x3, x4, x5⟩ := HY.out w1 hC; go_simp; exact ⟨rfl, rfl⟩)
                                         | (obtain ⟨c0, ⟨-, y0, y1, y2, y3, y4, y5⟩, -, x0, x1, x2, x3, x4, x5⟩ := HY.out w1 hC; go_simp; exact rfl)
                                         | exact rfl
                                         | (go_simp; exact ⟨rfl, rfl⟩)
                                     go_big_quiet_on))))
                      refine wpQuiet_nil ?_
                      intro W1 hC1
                      have HW1 := Lib.hid (HBW.out.trans (Below.mono hC1 HBW.out.size))
                      have HC1 := Lib.hid hC1
                      clear hC1
                      cases sk
                      · go_wp2_with fail
                        refine ⟨⟨p, (p : Int) - 1, by omega, by go_num, Lib.hid rfl, Lib.hid (fun q y' h h' hy hd => ?_), HW1⟩, by simp [intOf]; try omega⟩
                        by_cases e : q = p
                        · subst e
                          rw [HLY.out] at hy
                          simp only [Option.some.injEq] at hy
                          subst hy
                          have := HSK.out
                          simpa [sameK] using this
                        · exact HM.out q y' (by omega) h' hy hd
                      · have HKK : Hid (y.k = x.k) := Lib.hid (by have := HSK.out; simpa [sameK] using this)
                        have HB1 := Lib.hid (HBr.out.keep HC1.out)
                        have HD1 := Lib.hid (HDr.out.keep HC1.out)
                        have hyd := hit_at HL2.out (HGOT.out (by first | rfl | trivial)) HM.out HLY.out HDY.out HKK.out hpi
                        subst hyd
                        have HBX1 := Lib.hid (HBX.out.keep HW1.out)
                        have HY1 : Hid (∀ u, Kp W1 u → (u.cell? ⟨gb, 0, none⟩ = some (.int .u32 y.al) ∧ u.cell? ⟨gb, 1, none⟩ = some (.int .u32 0) ∧ u.cell? ⟨gb, 2, none⟩ = some (.int .u32 0) ∧ u.cell? ⟨gb, 3, none⟩ = some (.bool false) ∧ u.cell? ⟨gb, 4, none⟩ = some (.int .i64 y.sq)) ∧ (g < u.heap.size ∧ u.cell? ⟨g, o + p * 6, none⟩ = some (.int .u8 y.kind) ∧ u.cell? ⟨g, o + p * 6 + 1, none⟩ = some (.int .i64 y.k.a) ∧ u.cell? ⟨g, o + p * 6 + 2, none⟩ = some (.int .i64 y.k.b) ∧ u.cell? ⟨g, o + p * 6 + 3, none⟩ = some (.int .i64 y.k.c) ∧ u.cell? ⟨g, o + p * 6 + 4, none⟩ = some (.int .u32 y.al) ∧ u.cell? ⟨g, o + p * 6 + 5, none⟩ = some (.int .i64 y.sq))) := Lib.hid (fun u hu => by
                          obtain ⟨d0, d1, d2, d3, d4, _⟩ := (HBX1.out.keep hu).cells5
                          exact ⟨⟨d0, d1, d2, d3, d4⟩, (HY.out u (Below.trans HC1.out (Below.mono hu (Below.size HC1.out)))).2.1⟩)
                        have hnq : ∀ u, (binOp .neq 42 (.agg #[.int .u32 y.al, .int .u32 0, .int .u32 0, .bool false, .int .i64 y.sq]) (.agg #[.int .u32 y.al, .int .u32 0, .int .u32 0, .bool false, .int .i64 y.sq])).run Try.prog u = .ok (.bool false) u := fun u => by
                          have := neqD y.d y.d u
                          rw [show sameD y.d y.d = true by simp [sameD]] at this
                          exact this
                        go_upto_region 19 with fail
                        refine wp_region_kp (by kernel_rfl) (by kernel_rfl) ?_
                        repeat (first
                          | go_big_quiet_skip
                          | (go_big_quiet_want
                             first
                               | (go_big_quiet_op
                                  first
                                    | go_big_quiet_on
                                    | (apply Exists.intro
                                       refine ⟨fun w1 hC => ?_, ?_⟩
                                       · first
                                           | (have hdc := hC.call (decision_c y _); go_at_call 20; with_reducible exact hdc)
                                           | (obtain ⟨⟨d0, d1, d2, d3, d4⟩, -, y0, y1, y2, y3, y4, y5⟩ := HY1.out w1 hC; go_simp; exact ⟨rfl, rfl⟩)
                                           | (obtain ⟨⟨d0, d1, d2, d3, d4⟩, -, y0, y1, y2, y3, y4, y5⟩ := HY1.out w1 hC; go_simp; exact rfl)
                                           | exact rfl
                                           | (go_simp; exact ⟨rfl, rfl⟩)
                                       go_big_quiet_on))))
                        refine wpQuiet_nil ?_
                        intro W2 hC2
                        have HB2 := Lib.hid (HB1.out.keep hC2)
                        have HD2 := Lib.hid (HD1.out.keep hC2)
                        clear hC2
                        go_wp2_with fail
                        exact ⟨⟨i + 1, s2, D2, by omega, by go_num, HL2, HB2, HD2, HF2⟩, by simp [intOf]; try omega⟩
      · obtain rfl : i = n := by omega
        go_wp2_with (go_at_call 10; refine (awake_c _).mono ?_; rintro e w8 ⟨rfl, hb8⟩)
        go_ret
        exact ⟨rfl, HA.out.b.trans (hb8.mono HA.out.b.size)⟩
end Go.Proofs.Ytbhoofihnmmmfaa
