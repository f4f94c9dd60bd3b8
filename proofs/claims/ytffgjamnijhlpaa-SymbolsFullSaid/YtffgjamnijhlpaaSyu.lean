/- play: calls with a table and a state of the reference. -/
import Derived.Test.YtffgjamnijhlpaaSyt
import Derived.Deep.RegionWith
namespace Go.Proofs.Ytffgjamnijhlpaa
open Go.RowKit Go.Maps Go.Sort
structure Stp where
  kind : Int
  name : ByteArray
  num : Int
def PRow (w : World) (g o : Nat) (l : List Stp) : Prop := ∀ k (h : k < l.length), w.cell? ⟨g, o + k * 3, none⟩ = some (.int .i64 l[k].kind) ∧ w.cell? ⟨g, o + k * 3 + 1, none⟩ = some (.string l[k].name) ∧ w.cell? ⟨g, o + k * 3 + 2, none⟩ = some (.int .i64 l[k].num)
/-- a slice that reads as these calls; it lies below B -/
def Stps (B : Nat) (w : World) (v : Value) (l : List Stp) : Prop := (∃ ao cap, v = .slice ao l.length cap ∧ (l ≠ [] → ∃ g o, ao = some ⟨g, o, none⟩ ∧ g < B ∧ PRow w g o l)) ∧ ∀ s ∈ l, s.name.size ≤ 9223372036854775807
theorem PRow.keep {w w' : World} {g o : Nat} {l : List Stp} (h : PRow w g o l) (hb : w'.heap[g]? = w.heap[g]?) : PRow w' g o l := fun k hk => ⟨(World.cell?_of_block hb).trans (h k hk).1, (World.cell?_of_block hb).trans (h k hk).2.1, (World.cell?_of_block hb).trans (h k hk).2.2⟩
theorem Stps.keep {w w' : World} {B : Nat} {v : Value} {l : List Stp} (h : Stps B w v l) (hb : Below B w w') : Stps B w' v l := by
  obtain ⟨⟨ao, cap, rfl, hr⟩, hs⟩ := h
  refine ⟨⟨ao, cap, rfl, fun hl => ?_⟩, hs⟩
  obtain ⟨g, o, rfl, hg, hR⟩ := hr hl
  exact ⟨g, o, rfl, hg, hR.keep (hb.block g hg)⟩
/-- where a play stands: b the box of the state, c that of the result -/
def PlayI (w : World) (F G : Nat → Prop) (g limit b c : Nat) (wr : World) (names : List ByteArray) (E als : List (ByteArray × Int)) : Prop :=
  ∃ F' vn va, TabF wr F' g limit names E ∧ RS wr (fun k => (G k ∧ k < w.heap.size ∨ w.heap.size + 2 ≤ k) ∧ ¬ F' k) (.agg #[.int .i64 limit, vn, va]) limit names als ∧ Blk wr b 28 #[.int .i64 limit, vn, va] ∧
    Blk wr c 28 #[.int .i64 0, .slice none 0 0, .slice none 0 0] ∧ (∀ k, F' k → F k ∨ w.heap.size + 2 ≤ k) ∧ Mate names als E ∧ Small E ∧ names.length ≤ limit ∧ als.length ≤ 4096 ∧ Apart F w wr
/-- what stands behind Add of the reference -/
def Added (wr : World) (G : Nat → Prop) (limit : Nat) (names : List ByteArray) (E als : List (ByteArray × Int)) (s : ByteArray) (s9 s10 s11 : Value) (wx : World) : Prop :=
  ∃ b vn va, s9 = .pointer (some ⟨b, 0, none⟩) ∧ wr.heap.size ≤ b ∧ Blk wx b 28 #[.int .i64 limit, vn, va] ∧ RS wx (fun k => G k ∨ wr.heap.size ≤ k) (.agg #[.int .i64 limit, vn, va]) limit (addN limit names E s) als ∧
    s10 = .int .i64 (addK limit names E s) ∧ s11 = .int .i64 (addC limit names E s) ∧ Below wr.heap.size wr wx
def Alied (wr : World) (G : Nat → Prop) (limit : Nat) (names : List ByteArray) (E als : List (ByteArray × Int)) (s : ByteArray) (n : Int) (s14 s15 : Value) (wx : World) : Prop :=
  ∃ b vn va, s14 = .pointer (some ⟨b, 0, none⟩) ∧ wr.heap.size ≤ b ∧ Blk wx b 28 #[.int .i64 limit, vn, va] ∧ RS wx (fun k => G k ∨ wr.heap.size ≤ k) (.agg #[.int .i64 limit, vn, va]) limit names (aliE names E als s n) ∧
    s15 = .int .i64 (aliC names E s n) ∧ Below wr.heap.size wr wx
section
variable {w w' wr wx w6 : World} {F G F' F'' : Nat → Prop} {v vn va : Value} {g limit b : Nat} {names names2 : List ByteArray} {E als E2 als2 : List (ByteArray × Int)}
theorem apart_set3 {g : Nat} (x y z : Value) : Apart (fun k => k = g) w (((w.setCell ⟨g, 0, none⟩ x).setCell ⟨g, 1, none⟩ y).setCell ⟨g, 2, none⟩ z) :=
  (((Apart.refl (F := fun k => k = g)).setCell (p := ⟨g, 0, none⟩) (.inl rfl) x).setCell (p := ⟨g, 1, none⟩) (.inl rfl) y).setCell (p := ⟨g, 2, none⟩) (.inl rfl) z
theorem RS.set3 {t0 t1 t2 : Value} (h : RS w G v limit names als) (hb : Blk w b 28 #[t0, t1, t2]) (x y z : Value) : RS (((w.setCell ⟨b, 0, none⟩ x).setCell ⟨b, 1, none⟩ y).setCell ⟨b, 2, none⟩ z) G v limit names als := by
  obtain ⟨vn, va, e, h1, h2, h3, h4⟩ := h
  have n1 := blk_not_row hb h1 (by decide)
  have n2 := blk_not_row hb h2 (by decide)
  exact ⟨vn, va, e, row_set (row_set (row_set h1 n1 0 x) n1 1 y) n1 2 z, row_set (row_set (row_set h2 n2 0 x) n2 1 y) n2 2 z, h3, h4⟩
/-- a step of the play: the reference's call (wr to wx), the table's (wx to w6), the store -/
theorem PlayI.step {x0 x1 : Value} (hF : ∀ k, F k → k < w.heap.size) (hT : TabF wr F' g limit names E) (hF' : ∀ k, F' k → F k ∨ w.heap.size + 2 ≤ k)
    (hB : Blk wr w.heap.size 28 #[.int .i64 limit, x0, x1]) (hB1 : Blk wr (w.heap.size + 1) 28 #[.int .i64 0, .slice none 0 0, .slice none 0 0]) (hA : Apart F w wr)
    (hR : RS wx (fun k => ((G k ∧ k < w.heap.size ∨ w.heap.size + 2 ≤ k) ∧ ¬ F' k) ∨ wr.heap.size ≤ k) (.agg #[.int .i64 limit, vn, va]) limit names2 als2) (hx : Below wr.heap.size wr wx)
    (h6 : TabTo wx w6 F' g limit names2 E2) (hM : Mate names2 als2 E2) (hS : Small E2) (hl : names2.length ≤ limit) (ha : als2.length ≤ 4096) :
    PlayI w F G g limit w.heap.size (w.heap.size + 1) (((w6.setCell ⟨w.heap.size, 0, none⟩ (.int .i64 limit)).setCell ⟨w.heap.size, 1, none⟩ vn).setCell ⟨w.heap.size, 2, none⟩ va) names2 E2 als2 := by
  obtain ⟨⟨F'', hT6, hF6⟩, hA6⟩ := h6
  have hsz := hA.size
  have hbl := hB1.lt
  have hxs := hx.size
  have hFl := hT.lt
  have n0 : ¬ F' w.heap.size := fun h => by rcases hF' _ h with h | h; have := hF _ h; omega; omega
  have n1 : ¬ F' (w.heap.size + 1) := fun h => by rcases hF' _ h with h | h; have := hF _ h; omega; omega
  have m0 : ¬ F'' w.heap.size := fun h => by rcases hF6 _ h with h | h; exact n0 h; omega
  have hB6 : Blk w6 w.heap.size _ _ := (hA6.block _ (by omega) n0).trans (hB.keep hx)
  have hB16 : Blk w6 (w.heap.size + 1) _ _ := (hA6.block _ (by omega) n1).trans (hB1.keep hx)
  refine ⟨F'', vn, va, hT6.keep (apart_set3 _ _ _) (fun k hk e => m0 (e ▸ hk)), ?_, hB6.set3 _ _ _, ?_, ?_, hM, hS, hl, ha, ?_⟩
  · have hR1 : RS wx (fun k => ((G k ∧ k < w.heap.size ∨ w.heap.size + 2 ≤ k) ∧ ¬ F' k) ∧ k < wx.heap.size) (.agg #[.int .i64 limit, vn, va]) limit names2 als2 := hR.more fun k hk hlt => by
      rcases hk with hk | hk
      · exact ⟨hk, hlt⟩
      · exact ⟨⟨.inr (by omega), fun h => by have := hFl k h; omega⟩, hlt⟩
    have hR2 := hR1.keep hA6 (fun k hk => hk.1.2)
    have hR3 := hR2.keep (apart_set3 (w := w6) (g := w.heap.size) (.int .i64 limit) vn va) (fun k hk e => by
      subst e
      rcases hk.1.1 with h | h
      · omega
      · omega)
    refine hR3.more fun k hk _ => ⟨hk.1.1, fun h => ?_⟩
    rcases hF6 k h with h | h
    · exact hk.1.2 h
    · omega
  · exact (((hB16.far (p := ⟨w.heap.size, 0, none⟩) (by simp) _).far (p := ⟨w.heap.size, 1, none⟩) (by simp) _).far (p := ⟨w.heap.size, 2, none⟩) (by simp) _)
  · intro k hk
    rcases hF6 k hk with h | h
    · exact hF' k h
    · exact .inr (by omega)
  · have a1 : Apart F w wx := hA.then hx
    have a2 : Apart F w w6 := a1.trans hA6 (fun i hi => by rcases hF' i hi with h | h; exact .inl h; exact .inr (by omega))
    exact a2.trans (apart_set3 _ _ _) (fun i hi => .inr (by omega))
set_option maxRecDepth 100000 in
set_option maxHeartbeats 8000000 in
theorem play_c {B : Nat} {vl : Value} {l : List Stp} (hT : TabF w F g limit names E) (hR : RS w G v limit names als) (hGF : ∀ k, G k → ¬ F k) (hM : Mate names als E) (hS : Small E) (hP : Stps B w vl l) (hFB : ∀ k, F k → B ≤ k) (hBw : B ≤ w.heap.size) (hlen : l.length ≤ 60) (hlim : limit ≤ 4096) (hl : names.length ≤ limit) (ha : als.length ≤ 4096) :
    Calls Try.prog 12 #[.pointer (some ⟨g, 0, none⟩), v, vl] w fun e w' => ∃ v' names' E' als' F', e = .returned (.tuple #[v', .bool true]) ∧ TabF w' F' g limit names' E' ∧ RS w' (fun k => (G k ∧ k < w.heap.size ∨ w.heap.size + 2 ≤ k) ∧ ¬ F' k) v' limit names' als' ∧
      (∀ k, F' k → F k ∨ w.heap.size + 2 ≤ k) ∧ Mate names' als' E' ∧ Small E' ∧ names'.length ≤ limit ∧ als'.length ≤ 4096 ∧ Apart F w w' := by
  have hR0 := hR
  obtain ⟨vn, va, rfl, hN, hA⟩ := hR0.strs
  obtain ⟨ao, cap, rfl, _⟩ := id hN
  obtain ⟨ao2, cap2, rfl, _⟩ := id hA
  obtain ⟨B1, B2, hW, hz⟩ := two_states w (.int .i64 limit) (.slice ao names.length cap) (.slice ao2 als.length cap2) (.int .i64 0) (.slice none 0 0) (.slice none 0 0)
  obtain ⟨⟨aol, capl, rfl, hrl⟩, hsl⟩ := id hP
  have HP := Lib.hid hP
  have HGF := Lib.hid hGF
  have HFB := Lib.hid hFB
  have HFl := Lib.hid hT.lt
  have HI : Hid (PlayI w F G g limit w.heap.size (w.heap.size + 1) (((w.alloc (.cells #[.int .i64 limit, (.slice ao names.length cap), (.slice ao2 als.length cap2)] 28)).alloc (.cells #[.int .i64 0, .slice none 0 0, .slice none 0 0] 28))) names E als) := Lib.hid
    ⟨F, _, _, hT.below hW, (hR.more (F := fun k => (G k ∧ k < w.heap.size ∨ w.heap.size + 2 ≤ k) ∧ ¬ F k) (fun k hk hlt => ⟨.inl ⟨hk, hlt⟩, hGF k hk⟩)).below hW, B1, B2, fun k hk => .inl hk, hM, hS, hl, ha, Apart.of hW⟩
  clear hT hR hR0 hGF hM hS hP hFB hN hA B1 B2 hrl
  go_enter Try.func12, Try.ntmps12
  go_wp2_with fail
  generalize ((w.alloc (.cells #[.int .i64 limit, (.slice ao names.length cap), (.slice ao2 als.length cap2)] 28)).alloc (.cells #[.int .i64 0, .slice none 0 0, .slice none 0 0] 28)) = W at *
  have HZ := Lib.hid hz
  clear hz hW
  go_loopw [8] (fun vi wr => ∃ (i : Nat) (names : List ByteArray) (E als : List (ByteArray × Int)), i ≤ l.length ∧ vi = .int .i64 i ∧ Hid (PlayI w F G g limit w.heap.size (w.heap.size + 1) wr names E als)) (fun vi _ => l.length - (intOf vi).toNat)
  case atStart => exact ⟨0, _, _, _, Nat.zero_le _, rfl, HI⟩
  case round =>
    clear HI
    obtain ⟨i, names, E, als, hi, rfl, HI⟩ := hrel
    obtain ⟨F', un, ua, hT, hR, hB, hB1, hF', hM, hS, hl, ha, hAp⟩ := HI.out
    obtain ⟨un', ua', he, hN, hA⟩ := hR.strs
    obtain ⟨rfl, rfl⟩ : un = un' ∧ ua = ua' := by simpa using he
    obtain ⟨bo, cbp, rfl, _⟩ := id hN
    obtain ⟨bo2, cbp2, rfl, _⟩ := id hA
    obtain ⟨p0, p1, p2, q0, q1, q2⟩ := hB.cells3
    obtain ⟨r0, r1, r2, s0, s1, s2⟩ := hB1.cells3
    have hbel : Below B w wr := hAp.below hBw HFB.out
    by_cases hlt : i < l.length
    · have hlt' : (i : Int) < (l.length : Int) := by omega
      obtain ⟨⟨aol', capl', hv, hrl⟩, _⟩ := HP.out.keep hbel
      cases hv
      obtain ⟨gl, ol, rfl, hgl, hRow⟩ := hrl (by rintro rfl; simp at hlt)
      obtain ⟨x0, x1, x2⟩ := hRow i hlt
      obtain ⟨st, hst⟩ : ∃ st, l[i] = st := ⟨_, rfl⟩
      rw [hst] at x0 x1 x2
      have hss := hsl st (hst ▸ List.getElem_mem hlt)
      have HT := Lib.hid hT
      have HR := Lib.hid hR
      have HB := Lib.hid hB
      have HB1 := Lib.hid hB1
      have HF' := Lib.hid hF'
      have HM := Lib.hid hM
      have HS := Lib.hid hS
      have HA := Lib.hid hAp
      have HRow : Hid (∀ w1, Below wr.heap.size wr w1 → w1.cell? ⟨gl, ol + i * 3, none⟩ = some (.int .i64 st.kind) ∧ w1.cell? ⟨gl, ol + i * 3 + 1, none⟩ = some (.string st.name) ∧ w1.cell? ⟨gl, ol + i * 3 + 2, none⟩ = some (.int .i64 st.num)) := Lib.hid fun w1 h1 => by
        have := hRow.keep (h1.block gl (by have := hAp.size; omega)) i hlt
        rwa [hst] at this
      clear hT hR hB hB1 hF' hM hS hAp he hN hA hst hRow hrl hbel
      by_cases hk : st.kind = 0
      · have hkb : (st.kind == 0) = true := by simpa using hk
        go_upto_region 5 with (fail)
        go_cut [9, 10, 11] from 28 to 38 (fun s9 s10 s11 wx => Added wr (fun k => (G k ∧ k < w.heap.size ∨ w.heap.size + 2 ≤ k) ∧ ¬ F' k) limit names E als st.name s9 s10 s11 wx)
        case first =>
          have HSK : Hid (∀ w', Kp wr w' → w'.cell? ⟨w.heap.size, 0, none⟩ = some (.int .i64 limit) ∧ w'.cell? ⟨w.heap.size, 1, none⟩ = some (.slice bo names.length cbp) ∧ w'.cell? ⟨w.heap.size, 2, none⟩ = some (.slice bo2 als.length cbp2) ∧ w'.cell? ⟨gl, ol + i * 3 + 1, none⟩ = some (.string st.name) ∧ w'.cell? ⟨gl, ol + i * 3 + 2, none⟩ = some (.int .i64 st.num)) := Lib.hid fun w' h =>
            ⟨(h.blk HB.out).cell 0, (h.blk HB.out).cell 1, (h.blk HB.out).cell 2, (HRow.out _ h).2.1, (HRow.out _ h).2.2⟩
          have hC0 : Kp wr wr.drew := Kp.rfl'.drew
          go_region_held3 (fun w' => w'.cell? ⟨w.heap.size, 0, none⟩ = some (.int .i64 limit) ∧ w'.cell? ⟨w.heap.size, 1, none⟩ = some (.slice bo names.length cbp) ∧ w'.cell? ⟨w.heap.size, 2, none⟩ = some (.slice bo2 als.length cbp2) ∧ w'.cell? ⟨gl, ol + i * 3 + 1, none⟩ = some (.string st.name) ∧ w'.cell? ⟨gl, ol + i * 3 + 2, none⟩ = some (.int .i64 st.num)) (first | exact HSK.out _ (by assumption) | exact HSK.out _ ((Kp.alloc Kp.rfl' _).drew) | exact HSK.out _ (Kp.alloc (by assumption) _) | exact HSK.out _ (below_set3 (by assumption) (Nat.le_refl _) _ _ _))
            (first
              | (go_at_call 26; refine (radd_c st.name (HR.out.below (by first | assumption | exact (Kp.alloc Kp.rfl' _).drew)) HM.out hss (by omega) ha).mono ?_; rintro e w1 ⟨⟨v1, rfl, hr1⟩, hb1⟩; obtain ⟨vn1, va1, rfl, hs1, hA1⟩ := hr1.strs; obtain ⟨xo, xc, rfl, _⟩ := id hs1; obtain ⟨yo, yc, rfl, _⟩ := id hA1; clear hs1 hA1; have HR1 := Lib.hid hr1; clear hr1; first
                  | (have T4 : Blk w1 wr.heap.size 28 #[.int .i64 0, .slice none 0 0, .slice none 0 0] := Blk.keep (w := (wr.alloc (.cells #[.int .i64 0, .slice none 0 0, .slice none 0 0] 28)).drew) (Blk.new wr _ _) hb1
                     obtain ⟨t0, t1, t2, t3, t4, t5⟩ := T4.cells3
                     have HT4 := Lib.hid T4
                     have hC1 : Kp wr w1 := (Kp.alloc Kp.rfl' _).drew.step hb1
                     clear T4)
                  | (have hC1 : Kp wr w1 := hC0.step hb1)))
          all_goals
            go_wp2_with fail
            go_meet
            first
              | exact ⟨w1.heap.size, _, _, rfl, hb1.size, Blk.new w1 _ _, (HR1.out.more (fun k hk _ => hk)).below ((Below.refl _ _).alloc (Nat.le_refl _) _), rfl, rfl, (((Below.refl _ wr).drew).trans hb1).alloc hb1.size _⟩
              | exact ⟨wr.heap.size, _, _, rfl, Nat.le_refl _, HT4.out.set3 _ _ _, (HR1.out.more (fun k hk _ => by rcases hk with h | h; exact .inl h; exact .inr (by simp at h; omega))).set3 HT4.out _ _ _, rfl, rfl, below_set3 ((((Below.refl _ wr).alloc (Nat.le_refl _) _).drew).trans (hb1.mono (by simp))) (Nat.le_refl _) _ _ _⟩
        case rest =>
          obtain ⟨b, vn1, va1, rfl, hb9, T9, hr9, rfl, rfl, hbx⟩ := hcut
          obtain ⟨vn1', va1', he, hs1, hA1⟩ := hr9.strs
          obtain ⟨rfl, rfl⟩ : vn1 = vn1' ∧ va1 = va1' := by simpa using he
          obtain ⟨xo, xc, rfl, _⟩ := id hs1
          obtain ⟨yo, yc, rfl, _⟩ := id hA1
          have hz3 := HA.out.size
          have hlt0 := HB1.out.lt
          have hxs := hbx.size
          have n0 : ¬ F' w.heap.size := fun h => by rcases HF'.out _ h with h | h; have := HFl.out _ h; omega; omega
          have n9 : ¬ F' b := fun h => by have := HT.out.lt b h; omega
          have hlt9 := T9.lt
          have HAdd := Lib.hid (add_c st.name (HT.out.below hbx) hss hlim hl (by have := HM.out.len; omega))
          have HB9 := Lib.hid (HB.out.keep hbx)
          have HT9 := Lib.hid T9
          have HR9 := Lib.hid hr9
          have HRow' := HRow.out _ hbx
          obtain ⟨x0', x1', x2'⟩ := HRow'
          have N0 := Lib.hid n0
          have N9 := Lib.hid n9
          clear T9 hr9 he hs1 hA1 n0 n9 x0 x1 x2
          go_wp2_with (first
            | (go_at_call 19; refine HAdd.out.mono ?_; rintro e w6 ⟨rfl, h6⟩
               have U9 : Blk w6 b 28 _ := (h6.2.block b hlt9 N9.out).trans HT9.out
               have U0 : Blk w6 w.heap.size 28 _ := (h6.2.block w.heap.size (by omega) N0.out).trans HB9.out
               obtain ⟨y0, y1, y2, _⟩ := U9.cells3
               obtain ⟨z0, z1, z2, z3, z4, z5⟩ := U0.cells3
               have H6 := Lib.hid h6
               clear U9 U0 h6))
          go_roundw
          case rel => exact ⟨i + 1, addN limit names E st.name, addE limit names E st.name, als, hlt, by go_num, Lib.hid (PlayI.step HFl.out HT.out HF'.out HB.out HB1.out HA.out HR9.out hbx H6.out (mate_add st.name HM.out).1 (HS.out.add hss) ((mate_add st.name HM.out).2.2 hl) ha)⟩
          case measure => simp [intOf]; omega
      · have hkb : (st.kind == 0) = false := by simpa using hk
        go_upto_region 10 with (fail)
        go_cut [14, 15] from 59 to 73 (fun s14 s15 wx => Alied wr (fun k => (G k ∧ k < w.heap.size ∨ w.heap.size + 2 ≤ k) ∧ ¬ F' k) limit names E als st.name st.num s14 s15 wx)
        case first =>
          have HSK : Hid (∀ w', Kp wr w' → w'.cell? ⟨w.heap.size, 0, none⟩ = some (.int .i64 limit) ∧ w'.cell? ⟨w.heap.size, 1, none⟩ = some (.slice bo names.length cbp) ∧ w'.cell? ⟨w.heap.size, 2, none⟩ = some (.slice bo2 als.length cbp2) ∧ w'.cell? ⟨gl, ol + i * 3 + 1, none⟩ = some (.string st.name) ∧ w'.cell? ⟨gl, ol + i * 3 + 2, none⟩ = some (.int .i64 st.num)) := Lib.hid fun w' h =>
            ⟨(h.blk HB.out).cell 0, (h.blk HB.out).cell 1, (h.blk HB.out).cell 2, (HRow.out _ h).2.1, (HRow.out _ h).2.2⟩
          have hC0 : Kp wr wr.drew := Kp.rfl'.drew
          go_region_held3 (fun w' => w'.cell? ⟨w.heap.size, 0, none⟩ = some (.int .i64 limit) ∧ w'.cell? ⟨w.heap.size, 1, none⟩ = some (.slice bo names.length cbp) ∧ w'.cell? ⟨w.heap.size, 2, none⟩ = some (.slice bo2 als.length cbp2) ∧ w'.cell? ⟨gl, ol + i * 3 + 1, none⟩ = some (.string st.name) ∧ w'.cell? ⟨gl, ol + i * 3 + 2, none⟩ = some (.int .i64 st.num)) (first | exact HSK.out _ (by assumption) | exact HSK.out _ ((Kp.alloc Kp.rfl' _).drew) | exact HSK.out _ (Kp.alloc (by assumption) _) | exact HSK.out _ (below_set3 (by assumption) (Nat.le_refl _) _ _ _))
            (first
              | (go_at_call 27; refine (rali_c st.name st.num (HR.out.below (by first | assumption | exact (Kp.alloc Kp.rfl' _).drew)) HM.out hss (by omega) ha).mono ?_; rintro e w1 ⟨⟨v1, rfl, hr1⟩, hb1⟩; obtain ⟨vn1, va1, rfl, hs1, hA1⟩ := hr1.strs; obtain ⟨xo, xc, rfl, _⟩ := id hs1; obtain ⟨yo, yc, rfl, _⟩ := id hA1; clear hs1 hA1; have HR1 := Lib.hid hr1; clear hr1; first
                  | (have T4 : Blk w1 wr.heap.size 28 #[.int .i64 0, .slice none 0 0, .slice none 0 0] := Blk.keep (w := (wr.alloc (.cells #[.int .i64 0, .slice none 0 0, .slice none 0 0] 28)).drew) (Blk.new wr _ _) hb1
                     obtain ⟨t0, t1, t2, t3, t4, t5⟩ := T4.cells3
                     have HT4 := Lib.hid T4
                     have hC1 : Kp wr w1 := (Kp.alloc Kp.rfl' _).drew.step hb1
                     clear T4)
                  | (have hC1 : Kp wr w1 := hC0.step hb1)))
          all_goals
            go_wp2_with fail
            go_meet
            first
              | exact ⟨w1.heap.size, _, _, rfl, hb1.size, Blk.new w1 _ _, (HR1.out.more (fun k hk _ => hk)).below ((Below.refl _ _).alloc (Nat.le_refl _) _), rfl, (((Below.refl _ wr).drew).trans hb1).alloc hb1.size _⟩
              | exact ⟨wr.heap.size, _, _, rfl, Nat.le_refl _, HT4.out.set3 _ _ _, (HR1.out.more (fun k hk _ => by rcases hk with h | h; exact .inl h; exact .inr (by simp at h; omega))).set3 HT4.out _ _ _, rfl, below_set3 ((((Below.refl _ wr).alloc (Nat.le_refl _) _).drew).trans (hb1.mono (by simp))) (Nat.le_refl _) _ _ _⟩
        case rest =>
          obtain ⟨b, vn1, va1, rfl, hb9, T9, hr9, rfl, hbx⟩ := hcut
          clear x0 x1 x2
          go_upto_region 11 with (fail)
          replace hbx := hbx.drew
          replace T9 := T9.drew
          replace hr9 := hr9.below (Below.refl _ wc).drew
          obtain ⟨vn1', va1', he, hs1, hA1⟩ := hr9.strs
          obtain ⟨rfl, rfl⟩ : vn1 = vn1' ∧ va1 = va1' := by simpa using he
          obtain ⟨xo, xc, rfl, _⟩ := id hs1
          obtain ⟨yo, yc, rfl, _⟩ := id hA1
          have hz3 := HA.out.size
          have hlt0 := HB1.out.lt
          have hxs := hbx.size
          have n0 : ¬ F' w.heap.size := fun h => by rcases HF'.out _ h with h | h; have := HFl.out _ h; omega; omega
          have n9 : ¬ F' b := fun h => by have := HT.out.lt b h; omega
          have hlt9 := T9.lt
          have HAdd := Lib.hid (alias_c st.name st.num (HT.out.below hbx) hss (by omega) (by have := HM.out.len; omega))
          have HB9 := Lib.hid (HB.out.keep hbx)
          have HT9 := Lib.hid T9
          have HR9 := Lib.hid hr9
          have HRow' := HRow.out _ hbx
          have hs0 : wc.drew.cell? ⟨gl, ol + i * 3 + 1, none⟩ = some (.string st.name) ∧ wc.drew.cell? ⟨gl, ol + i * 3 + 2, none⟩ = some (.int .i64 st.num) := HRow'.2
          have NG : Hid (¬ F' gl) := Lib.hid fun h => by
            rcases HF'.out _ h with h | h
            · have := HFB.out _ h; omega
            · omega
          clear HRow'
          have N0 := Lib.hid n0
          have N9 := Lib.hid n9
          clear T9 hr9 he hs1 hA1 n0 n9
          go_region_held3 (fun w' => w'.cell? ⟨gl, ol + i * 3 + 1, none⟩ = some (.string st.name) ∧ w'.cell? ⟨gl, ol + i * 3 + 2, none⟩ = some (.int .i64 st.num)) (assumption)
            (first
            | (go_at_call 20; refine HAdd.out.mono ?_; rintro e w6 ⟨rfl, h6⟩
               have U9 : Blk w6 b 28 _ := (h6.2.block b hlt9 N9.out).trans HT9.out
               have U0 : Blk w6 w.heap.size 28 _ := (h6.2.block w.heap.size (by omega) N0.out).trans HB9.out
               obtain ⟨y0, y1, y2, _⟩ := U9.cells3
               obtain ⟨z0, z1, z2, z3, z4, z5⟩ := U0.cells3
               have hs6 : w6.cell? ⟨gl, ol + i * 3 + 1, none⟩ = some (.string st.name) ∧ w6.cell? ⟨gl, ol + i * 3 + 2, none⟩ = some (.int .i64 st.num) := by
                 have e := h6.2.block gl (by omega) NG.out
                 exact ⟨(World.cell?_of_block e).trans hs0.1, (World.cell?_of_block e).trans hs0.2⟩
               have H6 := Lib.hid h6
               clear U9 U0 h6))
          go_wp2_with fail
          go_roundw
          case rel => exact ⟨i + 1, names, aliE names E E st.name st.num, aliE names E als st.name st.num, hlt, by go_num, Lib.hid (PlayI.step HFl.out HT.out HF'.out HB.out HB1.out HA.out HR9.out hbx H6.out (mate_ali st.name st.num HM.out).1 (HS.out.ali hss) hl ((mate_ali st.name st.num HM.out).2.2 ha))⟩
          case measure => simp [intOf]; omega
    · obtain rfl : i = l.length := by omega
      go_wp2_with fail
      have RB := hB1.set3 (.int .i64 limit) (.slice bo names.length cbp) (.slice bo2 als.length cbp2)
      obtain ⟨r0', r1', r2'⟩ := RB.box3
      refine bodyPost_ret (v := .tuple #[.agg #[.int .i64 limit, .slice bo names.length cbp, .slice bo2 als.length cbp2], .bool true]) (by simp [results, Try.results12, go_sem, r0', r1', r2']) rfl ⟨_, names, E, als, F', rfl, hT.keep (apart_set3 _ _ _) (fun k hk e => ?_), hR.set3 hB1 _ _ _, hF', hM, hS, hl, ha, hAp.trans (apart_set3 _ _ _) (fun i hi => .inr (by omega))⟩
      rcases hF' k hk with h | h
      · have := HFl.out k h; omega
      · omega
end
end Go.Proofs.Ytffgjamnijhlpaa
