/- The law Model. -/
import Derived.Test.YtcainohglmgdpaaRvk
namespace Go.Proofs.Ytcainohglmgdpaa
open Go.RowKit Go.Maps Go.WideElems Go.WideMaps Go.WideShapes Go.Sort Go.Shelf
set_option maxRecDepth 100000 in
@[go_sem] theorem neqLim (a : Addr) (w : World) : (binOp .neq 25 (.pointer (some a)) (.pointer none)).run Try.prog w = .ok (.bool true) w := by
  have h : ∀ d : Nat, (Op.equalIn (d + 1) 25 (.pointer (some a)) (.pointer none)).run Try.prog w = .ok false w := fun d => by
    simp [Op.equalIn, run_underlying Try.underlying25, sizeOf, typeInfo]
  simp only [binOp]
  simp [Op.equal, Op.maxDepth, h 9999]
@[go_sem] theorem neqLim0 (w : World) : (binOp .neq 25 (.pointer none) (.pointer none)).run Try.prog w = .ok (.bool false) w := neqNil w
theorem playS_ok {L : List Ev} : ∀ {S : RS} {e : Int}, S.Ok e → (playS S L).Ok (e + L.length) := by
  induction L with
  | nil => intro S e h; simpa [playS] using h
  | cons x L ih => intro S e h; have := ih (allowR_ok h x.k x.n); rw [show e + ((x :: L).length : Int) = e + 1 + (L.length : Int) by simp; omega]; exact this
section
variable {w w' : World} {b i n : Int} {a1 a2 : Option Addr} {n1 c1 n2 c2 : Nat}
set_option maxRecDepth 100000 in
set_option maxHeartbeats 8000000 in
theorem lawModel_c {L M : List Ev} (hL : Rows' REv w (.slice a1 n1 c1) L) (hM : Rows' REv w (.slice a2 n2 c2) M) (hE : OkE L) (hE2 : OkE M) :
    Calls Try.prog 3 #[.agg #[.int .i64 b, .int .i64 i, .int .i64 n, .slice a1 n1 c1, .slice a2 n2 c2]] w fun r w' => r = .returned (.bool true) ∧ Below w.heap.size w w' := by
  have HB : Hid (Below w.heap.size w (w.alloc (.cells #[.int .i64 b, .int .i64 i, .int .i64 n, .slice a1 n1 c1, .slice a2 n2 c2] 24))) := Lib.hid ((Below.refl _ _).alloc (Nat.le_refl _) _)
  have HX : Hid (Blk (w.alloc (.cells #[.int .i64 b, .int .i64 i, .int .i64 n, .slice a1 n1 c1, .slice a2 n2 c2] 24)) w.heap.size 24 #[.int .i64 b, .int .i64 i, .int .i64 n, .slice a1 n1 c1, .slice a2 n2 c2]) := Lib.hid (Blk.new _ _ _)
  have HL := Lib.hid hL
  have HE := Lib.hid hE
  have HM2 := Lib.hid hM
  have HE2 := Lib.hid hE2
  clear hL hE hM hE2
  go_enter Try.func3, Try.ntmps3
  go_upto_region 1 with fail
  generalize w.alloc (.cells #[.int .i64 b, .int .i64 i, .int .i64 n, .slice a1 n1 c1, .slice a2 n2 c2] 24) = W at *
  obtain ⟨p, hp⟩ : ∃ p, w.heap.size = p := ⟨_, rfl⟩
  have HPW : Hid (w.heap.size = p) := Lib.hid hp
  rw [hp] at HX ⊢
  clear hp
  obtain ⟨x0, x1, x2, x3, x4⟩ := HX.out.cells5
  cases hk : okR b i n
  · have HN := Lib.hid (new_out b i n W hk)
    have HF := Lib.hid fun w1 => rfirst_no b i n w1 hk
    go_upto_region 2 with (go_at_call 8; with_reducible refine HN.out.mono ?_; rintro r w1 ⟨rfl, rfl⟩)
    go_upto_region 3 with (go_at_call 9; with_reducible refine (HF.out _).mono ?_; rintro r w2 ⟨rfl, hb2⟩; have HB2 := Lib.hid (HB.out.trans (hb2.mono HB.out.size)); have HNB : Hid (Blk (w2.alloc (.cells #[.int .i64 0, .int .i64 0, .int .i64 0, .int .i64 0, .slice none 0 0, .int .i64 0, .int .i64 0] 29)) w2.heap.size 29 #[.int .i64 0, .int .i64 0, .int .i64 0, .int .i64 0, .slice none 0 0, .int .i64 0, .int .i64 0]) := Lib.hid (Blk.new _ _ _); obtain ⟨r0, r1, r2, r3, r4, r5, r6⟩ := HNB.out.cells7; obtain ⟨z0, z1, z2, z3, z4, z5, z6⟩ := HNB.out.frozen7; have hsz2 : w.heap.size ≤ w2.heap.size := HB2.out.size; clear hb2)
    have HB3 := Lib.hid (HB2.out.alloc (o := .cells #[.int .i64 0, .int .i64 0, .int .i64 0, .int .i64 0, .slice none 0 0, .int .i64 0, .int .i64 0] 29) hsz2)
    clear x0 x1 x2 x3 x4 r0 r1 r2 r3 r4 r5 r6 z0 z1 z2 z3 z4 z5 z6
    generalize w2.alloc (.cells #[.int .i64 0, .int .i64 0, .int .i64 0, .int .i64 0, .slice none 0 0, .int .i64 0, .int .i64 0] 29) = W3 at *
    go_wp2_with (go_at_call 11; with_reducible refine (alive_c _).mono ?_; rintro r w3 ⟨rfl, hb3⟩)
    go_ret
    exact ⟨rfl, HB3.out.trans (hb3.mono HB3.out.size)⟩
  · have HN := Lib.hid (new_c b i n W hk)
    have HOK := Lib.hid (firstR_ok hk)
    have HF := Lib.hid fun w1 => rfirst_yes b i n w1 hk
    clear hk
    go_upto_region 2 with (go_at_call 8; with_reducible refine HN.out.mono ?_; rintro r w1 ⟨g, m, rfl, hl, hb, hg, hm⟩; have HLM := Lib.hid hl; have HB1 := Lib.hid (HB.out.trans (hb.mono HB.out.size)); have HG := Lib.hid (Nat.le_trans HB.out.size hg); have HM := Lib.hid (Nat.le_trans HB.out.size hm); have HX1 := Lib.hid (HX.out.keep hb); clear hl hb hg hm)
    clear HN HX HB x0 x1 x2 x3 x4
    obtain ⟨x0, x1, x2, x3, x4⟩ := HX1.out.cells5
    go_upto_region 3 with (go_at_call 9; with_reducible refine (HF.out _).mono ?_; rintro r w2 ⟨rfl, hb2⟩; have HB2 := Lib.hid (HB1.out.trans (hb2.mono HB1.out.size)); have HX2 := Lib.hid (HX1.out.keep hb2); have HLM2 := Lib.hid (HLM.out.keep hb2); have HNB : Hid (Blk (w2.alloc (.cells #[.int .i64 0, .int .i64 0, .int .i64 0, .int .i64 0, .slice none 0 0, .int .i64 0, .int .i64 0] 29)) w2.heap.size 29 #[.int .i64 0, .int .i64 0, .int .i64 0, .int .i64 0, .slice none 0 0, .int .i64 0, .int .i64 0]) := Lib.hid (Blk.new _ _ _); obtain ⟨r0, r1, r2, r3, r4, r5, r6⟩ := HNB.out.cells7; obtain ⟨z0, z1, z2, z3, z4, z5, z6⟩ := HNB.out.frozen7; have hsz2 : w.heap.size ≤ w2.heap.size := HB2.out.size; clear hb2)
    have HBA : Hid (Below w2.heap.size w2 (w2.alloc (.cells #[.int .i64 b, .int .i64 i, .int .i64 n, .int .i64 0, .slice none 0 0, .int .i64 0, .int .i64 0] 29))) := Lib.hid ((Below.refl _ _).alloc (Nat.le_refl _) _)
    have HB3 := Lib.hid (HB2.out.alloc (o := .cells #[.int .i64 b, .int .i64 i, .int .i64 n, .int .i64 0, .slice none 0 0, .int .i64 0, .int .i64 0] 29) hsz2)
    have HS3 : Hid (Blk (w2.alloc (.cells #[.int .i64 b, .int .i64 i, .int .i64 n, .int .i64 0, .slice none 0 0, .int .i64 0, .int .i64 0] 29)) w2.heap.size 29 #[.int .i64 b, .int .i64 i, .int .i64 n, .int .i64 0, .slice none 0 0, .int .i64 0, .int .i64 0]) := Lib.hid (Blk.new _ _ _)
    have HX3 := Lib.hid (HX2.out.keep HBA.out)
    have HLM3 := Lib.hid (HLM2.out.keep HBA.out)
    have HPQ : Hid (p < w2.heap.size ∧ w.heap.size ≤ w2.heap.size) := Lib.hid ⟨HX2.out.lt, hsz2⟩
    clear x0 x1 x2 x3 x4 r0 r1 r2 r3 r4 r5 r6 z0 z1 z2 z3 z4 z5 z6 HX1 HB1 HLM HB2 HX2 HLM2 HNB hsz2 HBA
    generalize w2.alloc (.cells #[.int .i64 b, .int .i64 i, .int .i64 n, .int .i64 0, .slice none 0 0, .int .i64 0, .int .i64 0] 29) = W3 at *
    generalize w2.heap.size = pb at *
    obtain ⟨x0, x1, x2, x3, x4⟩ := HX3.out.cells5
    have HLG := Lib.hid fun w => large_c (b := b) (i := i) (n := n) (a1 := a1) (n1 := n1) (c1 := c1) (a2 := a2) (n2 := n2) (c2 := c2) w
    cases hlg : largeB n1 n2
    · rw [hlg] at HLG
      have HSZ := Lib.hid (large_no hlg)
      go_upto_region 7 with (go_at_call 10; with_reducible refine (HLG.out _).mono ?_; rintro r W4 ⟨rfl, hb2⟩; have HB4 := Lib.hid (HB3.out.trans (hb2.mono HB3.out.size)); have HX4 := Lib.hid (HX3.out.keep hb2); have HS4 := Lib.hid (HS3.out.keep hb2); have HLM4 := Lib.hid (HLM3.out.keep hb2); clear hb2)
      clear x0 x1 x2 x3 x4 HX3 HB3 HS3 HLM3 HLG hlg
      have hTO := playS_ok (L := L) HOK.out
      have HPL : Hid (Calls Try.prog 12 #[.pointer (some ⟨g, 0, none⟩), .agg #[.int .i64 b, .int .i64 i, .int .i64 n, .int .i64 0, .slice none 0 0, .int .i64 0, .int .i64 0], .slice a1 n1 c1] W4 fun r w' => ∃ v', r = .returned (.tuple #[.agg #[.int .i64 (playS (firstR b i n) L).b, .int .i64 (playS (firstR b i n) L).i, .int .i64 (playS (firstR b i n) L).n, .int .i64 (playS (firstR b i n) L).t, v', .int .i64 (playS (firstR b i n) L).al, .int .i64 (playS (firstR b i n) L).dr], .bool true]) ∧ Own RBk w' w.heap.size v' (playS (firstR b i n) L).L ∧ Lim w' g m (playS (firstR b i n) L) ∧ Apart (Fl g m) W4 w') := Lib.hid (play_c (S := firstR b i n) (e := 0) (B := w.heap.size) (a := none) (n := 0) (c := 0) (Own.nil _ _) HLM4.out HOK.out (by omega) HSZ.out.1 HE.out (fun w1 h1 => HL.out.below (HB4.out.trans h1)) HB4.out.size HG.out HM.out)
      generalize playS (firstR b i n) L = T at *
      have HOKT := Lib.hid hTO
      clear hTO
      obtain ⟨x0, x1, x2, x3, x4⟩ := HX4.out.cells5
      obtain ⟨y0, y1, y2, y3, y4, y5, y6⟩ := HS4.out.cells7
      go_upto_region 8 with (go_at_call 12; with_reducible refine HPL.out.mono ?_; rintro r W5 ⟨v5, rfl, ho, hl, ha⟩; obtain ⟨a9, n9, c9, rfl⟩ : ∃ a9 n9 c9, v5 = .slice a9 n9 c9 := (by obtain ⟨a9, c9, h⟩ := ho.isSl; exact ⟨_, _, _, h⟩); have HO5 := Lib.hid ho; have HLM5 := Lib.hid hl; have HX5 := Lib.hid (ha.blk HX4.out (fl_not HLM4.out (by decide) p _ HX4.out)); have HS5 := Lib.hid (ha.blk HS4.out (fl_not HLM4.out (by decide) pb _ HS4.out)); have HB5 := Lib.hid (HB4.out.trans (fl_below ha HB4.out.size HG.out HM.out)); obtain ⟨r0, r1, r2, r3, r4, r5, r6⟩ := HS5.out.cells7; obtain ⟨z0, z1, z2, z3, z4, z5, z6⟩ := HS5.out.frozen7; clear ho hl ha)
      have HS6 := Lib.hid (HS5.out.set7 (.int .i64 T.b) (.int .i64 T.i) (.int .i64 T.n) (.int .i64 T.t) (.slice a9 n9 c9) (.int .i64 T.al) (.int .i64 T.dr))
      have HA6 := Lib.hid (apart_set7 (F := fun k => k = pb) (g := pb) (Apart.refl (w := W5)) (.inl rfl) (.int .i64 T.b) (.int .i64 T.i) (.int .i64 T.n) (.int .i64 T.t) (.slice a9 n9 c9) (.int .i64 T.al) (.int .i64 T.dr))
      have HX6 := Lib.hid (HA6.out.blk HX5.out (by have := HPQ.out; omega))
      have HLM6 := Lib.hid (HLM5.out.apart HA6.out (fun e => fl_not HLM5.out (by decide) pb _ HS5.out (.inl e.symm)) (fun e => fl_not HLM5.out (by decide) pb _ HS5.out (.inr e.symm)))
      have HO6 := Lib.hid (own_apart HO5.out HA6.out (fun k cs hk e => (hk.ne HS5.out (by decide)) e))
      have HB6 := Lib.hid (HB5.out.trans (HA6.out.below (B := w.heap.size) HB5.out.size (fun k hk => by have hk : k = pb := hk; have := HPQ.out; omega)))
      clear x0 x1 x2 x3 x4 y0 y1 y2 y3 y4 y5 y6 r0 r1 r2 r3 r4 r5 r6 z0 z1 z2 z3 z4 z5 z6 HX4 HB4 HS4 HLM4 HX5 HS5 HB5 HO5 HLM5 HA6 HPL
      generalize ((((((W5.setCell ⟨pb, 0, none⟩ (.int .i64 T.b)).setCell ⟨pb, 1, none⟩ (.int .i64 T.i)).setCell ⟨pb, 2, none⟩ (.int .i64 T.n)).setCell ⟨pb, 3, none⟩ (.int .i64 T.t)).setCell ⟨pb, 4, none⟩ (.slice a9 n9 c9)).setCell ⟨pb, 5, none⟩ (.int .i64 T.al)).setCell ⟨pb, 6, none⟩ (.int .i64 T.dr) = W6 at *
      have HSL := Lib.hid fun w1 (h1 : Kp W6 w1) => same_c (HO6.out.rows.below h1) (HLM6.out.keep h1) HOKT.out HSZ.out.1 HE.out (HL.out.below (HB6.out.trans (Below.mono h1 HB6.out.size)))
      have HSM := Lib.hid fun w1 (h1 : Kp W6 w1) => same_c (HO6.out.rows.below h1) (HLM6.out.keep h1) HOKT.out HSZ.out.2 HE2.out (HM2.out.below (HB6.out.trans (Below.mono h1 HB6.out.size)))
      have HXS := Lib.hid fun w1 (h1 : Kp W6 w1) => HX6.out.keep h1
      have HSS := Lib.hid fun w1 (h1 : Kp W6 w1) => HS6.out.keep h1
      have hk0 : Kp W6 W6 := Below.refl _ _
      obtain ⟨x0, x1, x2, x3, x4⟩ := HX6.out.cells5
      obtain ⟨y0, y1, y2, y3, y4, y5, y6⟩ := HS6.out.cells7
      go_wp2_with fail
      with_reducible refine (HSL.out W6 hk0).mono ?_
      rintro r W7 ⟨rfl, hb⟩
      have hk7 : Kp W6 W7 := hb
      clear hb x0 x1 x2 x3 x4 y0 y1 y2 y3 y4 y5 y6
      obtain ⟨x0, x1, x2, x3, x4⟩ := (HXS.out W7 hk7).cells5
      obtain ⟨y0, y1, y2, y3, y4, y5, y6⟩ := (HSS.out W7 hk7).cells7
      go_wp2_with fail
      with_reducible refine (HSM.out W7 hk7).mono ?_
      rintro r W8 ⟨rfl, hb⟩
      have hk8 : Kp W6 W8 := Below.trans hk7 (Below.mono hb hk7.size)
      clear hb x0 x1 x2 x3 x4 y0 y1 y2 y3 y4 y5 y6
      go_wp2_with fail
      with_reducible refine (alive_c _).mono ?_
      rintro r W9 ⟨rfl, hb9⟩
      go_wp2_with fail
      go_ret
      exact ⟨rfl, HB6.out.trans (Below.mono (Below.trans hk8 (Below.mono hb9 hk8.size)) HB6.out.size)⟩
    · rw [hlg] at HLG
      go_wp2_with (first
        | (go_at_call 10; with_reducible refine (HLG.out _).mono ?_; rintro r w4 ⟨rfl, hb2⟩; have HB4 := Lib.hid (HB3.out.trans (hb2.mono HB3.out.size)); clear hb2)
        | (go_at_call 11; with_reducible refine (alive_c _).mono ?_; rintro r w5 ⟨rfl, hb2⟩))
      go_ret
      exact ⟨rfl, HB4.out.trans (hb2.mono HB4.out.size)⟩
end
end Go.Proofs.Ytcainohglmgdpaa
