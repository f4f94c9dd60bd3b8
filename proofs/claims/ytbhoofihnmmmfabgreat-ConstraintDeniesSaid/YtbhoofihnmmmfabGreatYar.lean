/- Part of the proof: Cv9 Cxw Cxx Cya Cyb. No conditions. -/
import Derived.Test.YtbhoofihnmmmfabGreatYap
import Derived.Test.YtbhoofihnmmmfabGreatYaq
namespace Go.Proofs.YtbhoofihnmmmfabGreat
open Go.RowKit Go
set_option maxRecDepth 100000 in
set_option maxHeartbeats 32000000 in
theorem rv9 (c : Ca) (n : Nat) (ih : ∀ (x : X) (vn vk : Value) (w : World), okW n x → XV w vn vk x → Calls Tryz.prog 46 #[.agg #[.int .i64 x.op, .int .i64 x.a, .int .i64 x.r, .int .i64 x.b, vn, .int .u64 x.st.a, .int .u64 x.st.b, .int .u64 x.st.c, .int .u64 x.st.d, vk], .agg #[.int .i64 c.c1.u, .int .i64 c.c1.ro, .int .i64 c.c1.ty, .int .i64 c.c1.lo.s, .int .u64 c.c1.lo.c, .int .i64 c.c1.hi.s, .int .u64 c.c1.hi.c, .int .i64 c.c2.u, .int .i64 c.c2.ro, .int .i64 c.c2.ty, .int .i64 c.c2.lo.s, .int .u64 c.c2.lo.c, .int .i64 c.c2.hi.s, .int .u64 c.c2.hi.c, .int .i64 c.c3.u, .int .i64 c.c3.ro, .int .i64 c.c3.ty, .int .i64 c.c3.lo.s, .int .u64 c.c3.lo.c, .int .i64 c.c3.hi.s, .int .u64 c.c3.hi.c]] w fun e w' => e = .returned (.bool (valX c n x)) ∧ Below w.heap.size w w') (x : X) (vn vk : Value) (w : World) (hok : okW (n + 1) x) (hV : XV w vn vk x) (hop : x.op = 9) (ha1 : 0 ≤ x.a) (ha2 : x.a < 15) :
 Calls Tryz.prog 46 #[.agg #[.int .i64 x.op, .int .i64 x.a, .int .i64 x.r, .int .i64 x.b, vn, .int .u64 x.st.a, .int .u64 x.st.b, .int .u64 x.st.c, .int .u64 x.st.d, vk], .agg #[.int .i64 c.c1.u, .int .i64 c.c1.ro, .int .i64 c.c1.ty, .int .i64 c.c1.lo.s, .int .u64 c.c1.lo.c, .int .i64 c.c1.hi.s, .int .u64 c.c1.hi.c, .int .i64 c.c2.u, .int .i64 c.c2.ro, .int .i64 c.c2.ty, .int .i64 c.c2.lo.s, .int .u64 c.c2.lo.c, .int .i64 c.c2.hi.s, .int .u64 c.c2.hi.c, .int .i64 c.c3.u, .int .i64 c.c3.ro, .int .i64 c.c3.ty, .int .i64 c.c3.lo.s, .int .u64 c.c3.lo.c, .int .i64 c.c3.hi.s, .int .u64 c.c3.hi.c]] w fun e w' => e = .returned (.bool (valX c (n + 1) x)) ∧ Below w.heap.size w w' := by
 obtain ⟨-, hk8, hk9, hks⟩ := hok
 have HIH := Lib.hid ih
 have HKS := Lib.hid hks
 obtain ⟨ao, cap, ak, ck, rfl, rfl⟩ := hV.form
 have HK := Lib.hid hV.ks
 have hu : valX c (n + 1) x = if x.op = 2 then !valX c n (kidX x 0) else if x.op = 3 then valX c n (kidX x 0) && valX c n (kidX x 1) else if x.op = 4 then valX c n (kidX x 0) || valX c n (kidX x 1) else if x.op = 9 then hasS x.st (rdX c x.a.toNat).s else relX (rdX c x.a.toNat) x.r (rdX c x.b.toNat) := rfl
 rw [hu]
 have HKID : Hid (∀ (i : Nat) (hi : i < x.ks.length), ∃ g' o', ak = some ⟨g', o', none⟩ ∧ g' < w.heap.size ∧ ∃ ao2 cap2 ak2 ck2, (∀ W, Below w.heap.size w W → XC W g' (o' + i * 10) (kidX x i).op (kidX x i).a (kidX x i).r (kidX x i).b ao2 (kidX x i).ns.length cap2 (kidX x i).st ak2 (kidX x i).ks.length ck2) ∧ ∀ W, Below w.heap.size w W → Calls Tryz.prog 46 #[.agg #[.int .i64 (kidX x i).op, .int .i64 (kidX x i).a, .int .i64 (kidX x i).r, .int .i64 (kidX x i).b, .slice ao2 (kidX x i).ns.length cap2, .int .u64 (kidX x i).st.a, .int .u64 (kidX x i).st.b, .int .u64 (kidX x i).st.c, .int .u64 (kidX x i).st.d, .slice ak2 (kidX x i).ks.length ck2], .agg #[.int .i64 c.c1.u, .int .i64 c.c1.ro, .int .i64 c.c1.ty, .int .i64 c.c1.lo.s, .int .u64 c.c1.lo.c, .int .i64 c.c1.hi.s, .int .u64 c.c1.hi.c, .int .i64 c.c2.u, .int .i64 c.c2.ro, .int .i64 c.c2.ty, .int .i64 c.c2.lo.s, .int .u64 c.c2.lo.c, .int .i64 c.c2.hi.s, .int .u64 c.c2.hi.c, .int .i64 c.c3.u, .int .i64 c.c3.ro, .int .i64 c.c3.ty, .int .i64 c.c3.lo.s, .int .u64 c.c3.lo.c, .int .i64 c.c3.hi.s, .int .u64 c.c3.hi.c]] W fun e w' => e = .returned (.bool (valX c n (kidX x i))) ∧ Below W.heap.size W w') := Lib.hid fun i hi => by
  obtain ⟨g', o', hak, hg', hR⟩ := HK.out.row hi
  have hA := hR i hi
  rw [← kid_at hi] at hA
  obtain ⟨ao2, cap2, ak2, ck2, hc2, hv2⟩ := hA.xv
  refine ⟨g', o', hak, hg', ao2, cap2, ak2, ck2, fun W hW => hc2.keep (hW.block g' hg'), fun W hW => ?_⟩
  refine HIH.out _ _ _ W ?_ (hv2.keep hW)
  rw [kid_at hi]
  exact HKS.out _ (List.getElem_mem hi)
 clear ih hks hu hV
 have p2 : (x.op == 2) = false := by rw [hop]; rfl
 have p3 : (x.op == 3) = false := by rw [hop]; rfl
 have p4 : (x.op == 4) = false := by rw [hop]; rfl
 have p9 : (x.op == 9) = true := by rw [hop]; rfl
 rw [if_neg (by omega), if_neg (by omega), if_neg (by omega), if_pos hop]
 obtain ⟨na, hna⟩ : ∃ na : Nat, x.a = na := ⟨x.a.toNat, by omega⟩
 have hk9' := hk9 hop
 have hna15 : na < 15 := by omega
 have hta : x.a.toNat = na := by omega
 rw [hna] at hk9'
 have HNM : Hid (∀ W, Calls Tryz.prog 79 #[.agg #[.int .i64 c.c1.u, .int .i64 c.c1.ro, .int .i64 c.c1.ty, .int .i64 c.c1.lo.s, .int .u64 c.c1.lo.c, .int .i64 c.c1.hi.s, .int .u64 c.c1.hi.c, .int .i64 c.c2.u, .int .i64 c.c2.ro, .int .i64 c.c2.ty, .int .i64 c.c2.lo.s, .int .u64 c.c2.lo.c, .int .i64 c.c2.hi.s, .int .u64 c.c2.hi.c, .int .i64 c.c3.u, .int .i64 c.c3.ro, .int .i64 c.c3.ty, .int .i64 c.c3.lo.s, .int .u64 c.c3.lo.c, .int .i64 c.c3.hi.s, .int .u64 c.c3.hi.c], .int .i64 x.a] W fun e w' => e = .returned (.int .i64 (rdX c x.a.toNat).s) ∧ Below W.heap.size W w') := Lib.hid fun W => by
  have h := rname_c c na hna15 W
  rw [← rd_name' c na hk9'] at h
  rw [← hna] at h
  rw [hta]
  exact h
 generalize (rdX c x.a.toNat).s = R at *
 have HHS := Lib.hid (rhas_c x.st.a x.st.b x.st.c x.st.d R)
 obtain ⟨W, ZW⟩ : ∃ v, Hid (((w.alloc (.cells #[.int .i64 x.op, .int .i64 x.a, .int .i64 x.r, .int .i64 x.b, .slice ao x.ns.length cap, .int .u64 x.st.a, .int .u64 x.st.b, .int .u64 x.st.c, .int .u64 x.st.d, .slice ak x.ks.length ck] 55)).alloc (.cells #[.int .i64 c.c1.u, .int .i64 c.c1.ro, .int .i64 c.c1.ty, .int .i64 c.c1.lo.s, .int .u64 c.c1.lo.c, .int .i64 c.c1.hi.s, .int .u64 c.c1.hi.c, .int .i64 c.c2.u, .int .i64 c.c2.ro, .int .i64 c.c2.ty, .int .i64 c.c2.lo.s, .int .u64 c.c2.lo.c, .int .i64 c.c2.hi.s, .int .u64 c.c2.hi.c, .int .i64 c.c3.u, .int .i64 c.c3.ro, .int .i64 c.c3.ty, .int .i64 c.c3.lo.s, .int .u64 c.c3.lo.c, .int .i64 c.c3.hi.s, .int .u64 c.c3.hi.c] 48)) = v) := ⟨_, Lib.hid rfl⟩
 have HXC : Hid (XC W w.heap.size 0 x.op x.a x.r x.b ao x.ns.length cap x.st ak x.ks.length ck) := by cases ZW.out; exact Lib.hid (XC.of_blk ((Blk.new w _ _).alloc _))
 have HC : Hid (Blk W (w.heap.size + 1) 48 #[.int .i64 c.c1.u, .int .i64 c.c1.ro, .int .i64 c.c1.ty, .int .i64 c.c1.lo.s, .int .u64 c.c1.lo.c, .int .i64 c.c1.hi.s, .int .u64 c.c1.hi.c, .int .i64 c.c2.u, .int .i64 c.c2.ro, .int .i64 c.c2.ty, .int .i64 c.c2.lo.s, .int .u64 c.c2.lo.c, .int .i64 c.c2.hi.s, .int .u64 c.c2.hi.c, .int .i64 c.c3.u, .int .i64 c.c3.ro, .int .i64 c.c3.ty, .int .i64 c.c3.lo.s, .int .u64 c.c3.lo.c, .int .i64 c.c3.hi.s, .int .u64 c.c3.hi.c]) := by cases ZW.out; exact Lib.hid (two_new' _ _ _ _)
 have HB : Hid (Below w.heap.size w W) := by cases ZW.out; exact Lib.hid (((Below.refl _ _).alloc (Nat.le_refl _) _).alloc (by simp) _)
 have HG : Hid (w.heap.size < W.heap.size) := by cases ZW.out; exact Lib.hid (by simp; omega)
 clear hop ha1 ha2 hna hna15 hta hk8 hk9 hk9' HKID HK HKS HIH
 go_enter Tryz.func46, Tryz.ntmps46
 go_upto_region 1 with fail
 rw [ZW.out]
 have HLE : Hid (w.heap.size ≤ W.heap.size) := Lib.hid HB.out.size
 generalize w.heap.size + 1 = gc at *
 generalize hge : w.heap.size = ge at *
 obtain ⟨y0, y1, y2, y3, y4, y5, y6, y7, y8, y9⟩ := HXC.out.cells
 go_upto_region 9 with fail
 clear y0 y1 y2 y3 y4 y5 y6 y7 y8 y9
 refine wp_region_kp (by kernel_rfl) (by kernel_rfl) ?_
 repeat (first | go_big_quiet_skip | (go_big_quiet_want; first | (refine quiet_load _ rfl rfl (fun w1 hC => loadAt_case (Blk.keep HC.out hC)) ?_; simp only [Act.put, List.setIfInBounds_toArray, List.set_cons_succ, List.set_cons_zero]; go_big_quiet_on) | (go_big_quiet_op; first | go_big_quiet_on | (apply Exists.intro; refine ⟨fun w1 hC => ?_, ?_⟩; (first | (go_at_call 79; with_reducible exact hC.call (HNM.out _)) | (go_at_call 78; with_reducible exact hC.call (HHS.out _)) | (go_simp; exact ⟨rfl, rfl⟩) | (obtain ⟨y0, y1, y2, y3, y4, y5, y6, y7, y8, y9⟩ := (HXC.out.keep (Below.block hC ge HG.out)).cells; go_simp; exact rfl)); go_big_quiet_on))))
 refine wpQuiet_nil ?_
 intro W1 hC
 have HCC := Lib.hid (HB.out.trans (hC.mono HLE.out))
 clear hC
 go_wp2_with fail
 go_ret
 exact ⟨rfl, by first | exact HCC.out | (rw [hge]; exact HCC.out)⟩
open Go.RowKit Go
theorem rvalue_c (c : Ca) : ∀ (n : Nat) (x : X) (vn vk : Value) (w : World), okW n x → XV w vn vk x →
 Calls Tryz.prog 46 #[.agg #[.int .i64 x.op, .int .i64 x.a, .int .i64 x.r, .int .i64 x.b, vn, .int .u64 x.st.a, .int .u64 x.st.b, .int .u64 x.st.c, .int .u64 x.st.d, vk], .agg #[.int .i64 c.c1.u, .int .i64 c.c1.ro, .int .i64 c.c1.ty, .int .i64 c.c1.lo.s, .int .u64 c.c1.lo.c, .int .i64 c.c1.hi.s, .int .u64 c.c1.hi.c, .int .i64 c.c2.u, .int .i64 c.c2.ro, .int .i64 c.c2.ty, .int .i64 c.c2.lo.s, .int .u64 c.c2.lo.c, .int .i64 c.c2.hi.s, .int .u64 c.c2.hi.c, .int .i64 c.c3.u, .int .i64 c.c3.ro, .int .i64 c.c3.ty, .int .i64 c.c3.lo.s, .int .u64 c.c3.lo.c, .int .i64 c.c3.hi.s, .int .u64 c.c3.hi.c]] w fun e w' => e = .returned (.bool (valX c n x)) ∧ Below w.heap.size w w' := by
 intro n
 induction n with
 | zero => intro x vn vk w h; exact absurd h (by unfold okW; exact id)
 | succ n ih =>
   intro x vn vk w hok hV
   rcases hok.1 with ⟨hop, hlen⟩ | ⟨hop, hlen⟩ | ⟨hop, ha, hb⟩ | ⟨hop, ha1, ha2⟩
   · exact rv2 c n ih x vn vk w hok hV hop hlen
   · rcases hop with hop | hop
     · exact rv3 c n ih x vn vk w hok hV hop hlen
     · exact rv4 c n ih x vn vk w hok hV hop hlen
   · exact rv8 c n ih x vn vk w hok hV hop ha hb
   · exact rv9 c n ih x vn vk w hok hV hop ha1 ha2
open Go.RowKit Go
theorem wpList_of_quiet {P : Program} {ops : Array Oper} {C : World → Prop} {Q : Act → Prop} {Q' : Exit → Act → World → Prop} (hQ : ∀ a w, C w → Q a → Q' .normal a w) : ∀ (l : List Oper) (a : Act) (w : World), C w → wpQuiet P ops C Q l a → wpList P ops Q' l a w
 | [], a, w, hC, h => hQ a w hC h
 | o :: rest, a, w, hC, h => by
   unfold wpQuiet at h
   unfold wpList
   by_cases hw : Region.wanted o (yielded ops a.tmps) = true
   · rw [if_pos hw] at h ⊢
     exact .inl (Oper.wp_of_quiet hC (fun a w' hc hk => wpList_of_quiet hQ rest a w' hc hk) h)
   · rw [if_neg hw] at h ⊢
     exact wpList_of_quiet hQ rest _ w hC h
/-- a region in the text's order, walked as a quiet one -/
theorem wp_region_kq {P : Program} {id : Nat} {Q : Exit → Act → World → Prop} {a : Act} {w : World} {l : List Oper} (h : wpQuiet P l.toArray (Kp w) (fun a' => ∀ w', Kp w w' → Q .normal a' w') l a) : (Code.region id l.toArray false).wp P Q a w :=
 wp_region_lit (wpList_of_quiet (fun _ w hc h => h w hc) l a w (Below.refl _ _) h)
theorem okW_of : ∀ (n : Nat) (x : X), wfR n x = true → okW n x
 | 0, x, h => by unfold wfR at h; cases h
 | n + 1, x, h => by
   have e1 : wfR (n + 1) x = ((nodeX x == 0) && x.ks.all (wfR n)) := rfl
   rw [e1, Bool.and_eq_true, beq_iff_eq, List.all_eq_true] at h
   have hnd : nodeX x = 0 ↔ opE 15 x = 0 := node0 _ _ _ _ _ _ _
   have h0 := hnd.1 h.1
   refine ⟨op_ok h0, fun h8 => ?_, fun h9 => ?_, fun k hk => okW_of n k (h.2 k hk)⟩
   · unfold opE operE at h0
     rw [if_neg (by omega), if_neg (by omega), if_pos h8] at h0
     split at h0
     · omega
     · unfold cmpE at h0
       split at h0
       · omega
       · rename_i hh
         split at h0
         · omega
         · rename_i hk
           refine ⟨?_, fun h3 => ?_, by omega, by omega⟩
           · by_cases e : sortA x.a = sortA x.b
             · exact e
             · exact absurd (.inl e) hk
           · by_cases e : x.r ≤ 1
             · exact e
             · exact absurd (.inr ⟨h3, by omega⟩) hk
   · unfold opE operE at h0
     rw [if_neg (by omega), if_neg (by omega), if_neg (by omega), if_pos h9] at h0
     split at h0
     · omega
     · unfold memE at h0
       split at h0
       · omega
       · split at h0
         · omega
         · assumption
set_option maxRecDepth 100000 in
set_option maxHeartbeats 8000000 in
theorem reval_c (x : X) (vn vk : Value) (c : Ca) (w : World) (hV : XV w vn vk x) : Calls Tryz.prog 20 #[.agg #[.int .i64 x.op, .int .i64 x.a, .int .i64 x.r, .int .i64 x.b, vn, .int .u64 x.st.a, .int .u64 x.st.b, .int .u64 x.st.c, .int .u64 x.st.d, vk], .agg #[.int .i64 c.c1.u, .int .i64 c.c1.ro, .int .i64 c.c1.ty, .int .i64 c.c1.lo.s, .int .u64 c.c1.lo.c, .int .i64 c.c1.hi.s, .int .u64 c.c1.hi.c, .int .i64 c.c2.u, .int .i64 c.c2.ro, .int .i64 c.c2.ty, .int .i64 c.c2.lo.s, .int .u64 c.c2.lo.c, .int .i64 c.c2.hi.s, .int .u64 c.c2.hi.c, .int .i64 c.c3.u, .int .i64 c.c3.ro, .int .i64 c.c3.ty, .int .i64 c.c3.lo.s, .int .u64 c.c3.lo.c, .int .i64 c.c3.hi.s, .int .u64 c.c3.hi.c]] w fun e w' => e = .returned (.bool (evX c x)) ∧ Below w.heap.size w w' := by
 unfold evX
 rw [← wfR_X]
 obtain ⟨ao, cap, ak, ck, rfl, rfl⟩ := hV.form
 have HWF : Hid (∀ W, Kp w W → Calls Tryz.prog 45 #[.agg #[.int .i64 x.op, .int .i64 x.a, .int .i64 x.r, .int .i64 x.b, .slice ao x.ns.length cap, .int .u64 x.st.a, .int .u64 x.st.b, .int .u64 x.st.c, .int .u64 x.st.d, .slice ak x.ks.length ck], .int .i64 12] W fun e w' => e = .returned (.bool (wfR 12 x)) ∧ Below W.heap.size W w') := Lib.hid fun W hW => wellFormed_c 12 x _ _ W (by decide) (hV.keep hW)
 have HVL : Hid (wfR 12 x = true → ∀ W, Kp w W → Calls Tryz.prog 46 #[.agg #[.int .i64 x.op, .int .i64 x.a, .int .i64 x.r, .int .i64 x.b, .slice ao x.ns.length cap, .int .u64 x.st.a, .int .u64 x.st.b, .int .u64 x.st.c, .int .u64 x.st.d, .slice ak x.ks.length ck], .agg #[.int .i64 c.c1.u, .int .i64 c.c1.ro, .int .i64 c.c1.ty, .int .i64 c.c1.lo.s, .int .u64 c.c1.lo.c, .int .i64 c.c1.hi.s, .int .u64 c.c1.hi.c, .int .i64 c.c2.u, .int .i64 c.c2.ro, .int .i64 c.c2.ty, .int .i64 c.c2.lo.s, .int .u64 c.c2.lo.c, .int .i64 c.c2.hi.s, .int .u64 c.c2.hi.c, .int .i64 c.c3.u, .int .i64 c.c3.ro, .int .i64 c.c3.ty, .int .i64 c.c3.lo.s, .int .u64 c.c3.lo.c, .int .i64 c.c3.hi.s, .int .u64 c.c3.hi.c]] W fun e w' => e = .returned (.bool (valX c 12 x)) ∧ Below W.heap.size W w') := Lib.hid fun h W hW => rvalue_c c 12 x _ _ W (okW_of 12 x h) (hV.keep hW)
 obtain ⟨W, ZW⟩ : ∃ v, Hid (((w.alloc (.cells #[.int .i64 x.op, .int .i64 x.a, .int .i64 x.r, .int .i64 x.b, .slice ao x.ns.length cap, .int .u64 x.st.a, .int .u64 x.st.b, .int .u64 x.st.c, .int .u64 x.st.d, .slice ak x.ks.length ck] 55)).alloc (.cells #[.int .i64 c.c1.u, .int .i64 c.c1.ro, .int .i64 c.c1.ty, .int .i64 c.c1.lo.s, .int .u64 c.c1.lo.c, .int .i64 c.c1.hi.s, .int .u64 c.c1.hi.c, .int .i64 c.c2.u, .int .i64 c.c2.ro, .int .i64 c.c2.ty, .int .i64 c.c2.lo.s, .int .u64 c.c2.lo.c, .int .i64 c.c2.hi.s, .int .u64 c.c2.hi.c, .int .i64 c.c3.u, .int .i64 c.c3.ro, .int .i64 c.c3.ty, .int .i64 c.c3.lo.s, .int .u64 c.c3.lo.c, .int .i64 c.c3.hi.s, .int .u64 c.c3.hi.c] 48)) = v) := ⟨_, Lib.hid rfl⟩
 have HXC : Hid (XC W w.heap.size 0 x.op x.a x.r x.b ao x.ns.length cap x.st ak x.ks.length ck) := by cases ZW.out; exact Lib.hid (XC.of_blk ((Blk.new w _ _).alloc _))
 have HC : Hid (Blk W (w.heap.size + 1) 48 #[.int .i64 c.c1.u, .int .i64 c.c1.ro, .int .i64 c.c1.ty, .int .i64 c.c1.lo.s, .int .u64 c.c1.lo.c, .int .i64 c.c1.hi.s, .int .u64 c.c1.hi.c, .int .i64 c.c2.u, .int .i64 c.c2.ro, .int .i64 c.c2.ty, .int .i64 c.c2.lo.s, .int .u64 c.c2.lo.c, .int .i64 c.c2.hi.s, .int .u64 c.c2.hi.c, .int .i64 c.c3.u, .int .i64 c.c3.ro, .int .i64 c.c3.ty, .int .i64 c.c3.lo.s, .int .u64 c.c3.lo.c, .int .i64 c.c3.hi.s, .int .u64 c.c3.hi.c]) := by cases ZW.out; exact Lib.hid (two_new' _ _ _ _)
 have HB : Hid (Below w.heap.size w W) := by cases ZW.out; exact Lib.hid (((Below.refl _ _).alloc (Nat.le_refl _) _).alloc (by simp) _)
 have HG : Hid (w.heap.size < W.heap.size) := by cases ZW.out; exact Lib.hid (by simp; omega)
 generalize valX c 12 x = vv at *
 clear hV
 cases hb : wfR 12 x with
 | false =>
   rw [hb] at HWF HVL
   clear hb
   go_enter Tryz.func20, Tryz.ntmps20
   go_upto_region 1 with fail
   rw [ZW.out]
   have HLE : Hid (w.heap.size ≤ W.heap.size) := Lib.hid HB.out.size
   have HKB : Hid (∀ W1, Kp W W1 → Kp w W1) := Lib.hid (fun W1 h => kpb HB.out HLE.out h)
   generalize w.heap.size + 1 = gc at *
   generalize hge : w.heap.size = ge at *
   refine wp_region_kq ?_
   repeat (first | go_big_quiet_skip | (go_big_quiet_want; first | (refine quiet_load (t := 48) (.tmp 3) rfl rfl (fun w1 hC => loadAt_case (Blk.keep HC.out hC)) ?_; simp only [Act.put, List.setIfInBounds_toArray, List.set_cons_succ, List.set_cons_zero]; go_big_quiet_on) | (refine quiet_load (t := 55) (.tmp 2) rfl rfl (fun w1 hC => loadAt_expr (HXC.out.keep (Below.block hC ge HG.out))) ?_; simp only [Act.put, List.setIfInBounds_toArray, List.set_cons_succ, List.set_cons_zero]; go_big_quiet_on) | (go_big_quiet_op; first | go_big_quiet_on | (apply Exists.intro; refine ⟨fun w1 hC => ?_, ?_⟩; (first | (go_at_call 45; with_reducible exact hC.call (HWF.out _ (HKB.out _ hC))) | (go_at_call 46; with_reducible exact hC.call (HVL.out rfl _ (HKB.out _ hC))) | (go_simp; exact ⟨rfl, rfl⟩) | (obtain ⟨y0, y1, y2, y3, y4, y5, y6, y7, y8, y9⟩ := (HXC.out.keep (Below.block hC ge HG.out)).cells; go_simp; exact rfl)); go_big_quiet_on))))
   refine wpQuiet_nil ?_
   intro W1 hC
   have HCC := Lib.hid (HB.out.trans (hC.mono HLE.out))
   clear hC
   go_wp2_with fail
   go_ret
   exact ⟨rfl, by first | exact HCC.out | (rw [hge]; exact HCC.out)⟩
 | true =>
   rw [hb] at HWF HVL
   clear hb
   go_enter Tryz.func20, Tryz.ntmps20
   go_upto_region 1 with fail
   rw [ZW.out]
   have HLE : Hid (w.heap.size ≤ W.heap.size) := Lib.hid HB.out.size
   have HKB : Hid (∀ W1, Kp W W1 → Kp w W1) := Lib.hid (fun W1 h => kpb HB.out HLE.out h)
   generalize w.heap.size + 1 = gc at *
   generalize hge : w.heap.size = ge at *
   refine wp_region_kq ?_
   repeat (first | go_big_quiet_skip | (go_big_quiet_want; first | (refine quiet_load (t := 48) (.tmp 3) rfl rfl (fun w1 hC => loadAt_case (Blk.keep HC.out hC)) ?_; simp only [Act.put, List.setIfInBounds_toArray, List.set_cons_succ, List.set_cons_zero]; go_big_quiet_on) | (refine quiet_load (t := 55) (.tmp 2) rfl rfl (fun w1 hC => loadAt_expr (HXC.out.keep (Below.block hC ge HG.out))) ?_; simp only [Act.put, List.setIfInBounds_toArray, List.set_cons_succ, List.set_cons_zero]; go_big_quiet_on) | (go_big_quiet_op; first | go_big_quiet_on | (apply Exists.intro; refine ⟨fun w1 hC => ?_, ?_⟩; (first | (go_at_call 45; with_reducible exact hC.call (HWF.out _ (HKB.out _ hC))) | (go_at_call 46; with_reducible exact hC.call (HVL.out rfl _ (HKB.out _ hC))) | (go_simp; exact ⟨rfl, rfl⟩) | (obtain ⟨y0, y1, y2, y3, y4, y5, y6, y7, y8, y9⟩ := (HXC.out.keep (Below.block hC ge HG.out)).cells; go_simp; exact rfl)); go_big_quiet_on))))
   refine wpQuiet_nil ?_
   intro W1 hC
   have HCC := Lib.hid (HB.out.trans (hC.mono HLE.out))
   clear hC
   go_wp2_with fail
   go_ret
   exact ⟨rfl, by first | exact HCC.out | (rw [hge]; exact HCC.out)⟩
open Go.RowKit Go
def smX : Nat → X → Bool
 | 0, _ => false
 | n + 1, x => decide (x.ks.length ≤ 3 ∧ x.ns.length ≤ 20) && x.ks.all (smX n)
theorem all_no' {F : X → Bool} {ks : List X} {i : Nat} (hi : i < ks.length) (h : F ks[i] = false) : ks.all F = false := by
 rw [List.all_eq_false]
 exact ⟨_, List.getElem_mem hi, by rw [h]; simp⟩
theorem all_yes' {F : X → Bool} {ks : List X} (h : ∀ j (hj : j < ks.length), F ks[j] = true) : ks.all F = true := by
 rw [List.all_eq_true]
 intro x hx
 obtain ⟨j, hj, rfl⟩ := List.getElem_of_mem hx
 exact h j hj
set_option maxRecDepth 100000 in
set_option maxHeartbeats 16000000 in
theorem small_c : ∀ (n : Nat) (x : X) (vn vk : Value) (w : World), n ≤ 100 → XV w vn vk x →
 Calls Tryz.prog 10 #[.agg #[.int .i64 x.op, .int .i64 x.a, .int .i64 x.r, .int .i64 x.b, vn, .int .u64 x.st.a, .int .u64 x.st.b, .int .u64 x.st.c, .int .u64 x.st.d, vk], .int .i64 n] w fun e w' => e = .returned (.bool (smX n x)) ∧ Below w.heap.size w w' := by
 intro n
 induction n with
 | zero =>
   intro x vn vk w _ _
   have HB := Lib.hid ((Below.refl w.heap.size w).alloc (Nat.le_refl _) (.cells #[.int .i64 x.op, .int .i64 x.a, .int .i64 x.r, .int .i64 x.b, vn, .int .u64 x.st.a, .int .u64 x.st.b, .int .u64 x.st.c, .int .u64 x.st.d, vk] 55))
   go_enter Tryz.func10, Tryz.ntmps10
   go_wp2_with fail
   go_ret
   exact ⟨by unfold smX; rfl, HB.out⟩
 | succ n ih =>
   intro x vn vk w hn hV
   have HIH := Lib.hid ih
   obtain ⟨m, hm⟩ : ∃ m : Nat, n + 1 = m := ⟨_, rfl⟩
   rw [hm]
   have HSB : Hid ((m : Int) - 1 = (n : Int)) := Lib.hid (by omega)
   have hz : ((m : Int) ≤ 0) = False := by simp; omega
   have hm1 : 1 ≤ m ∧ m ≤ 101 := by omega
   have HN : Hid (n ≤ 100) := Lib.hid (by omega)
   have HM : Hid (smX m x = (decide (x.ks.length ≤ 3 ∧ x.ns.length ≤ 20) && x.ks.all (smX n))) := Lib.hid (by rw [← hm]; rfl)
   have hkI : (x.ks.length : Int) ≤ 9223372036854775807 := by have h := hV.wf.nk; unfold maxLen at h; omega
   obtain ⟨ao, cap, ak, ck, rfl, rfl⟩ := hV.form
   have HX : Hid (XC (w.alloc (.cells #[.int .i64 x.op, .int .i64 x.a, .int .i64 x.r, .int .i64 x.b, .slice ao x.ns.length cap, .int .u64 x.st.a, .int .u64 x.st.b, .int .u64 x.st.c, .int .u64 x.st.d, .slice ak x.ks.length ck] 55)) w.heap.size 0 x.op x.a x.r x.b ao x.ns.length cap x.st ak x.ks.length ck) := Lib.hid (XC.of_blk (Blk.new w _ _))
   have HB : Hid (Below w.heap.size w (w.alloc (.cells #[.int .i64 x.op, .int .i64 x.a, .int .i64 x.r, .int .i64 x.b, .slice ao x.ns.length cap, .int .u64 x.st.a, .int .u64 x.st.b, .int .u64 x.st.c, .int .u64 x.st.d, .slice ak x.ks.length ck] 55))) := Lib.hid ((Below.refl _ _).alloc (Nat.le_refl _) _)
   have HG : Hid (w.heap.size < (w.alloc (.cells #[.int .i64 x.op, .int .i64 x.a, .int .i64 x.r, .int .i64 x.b, .slice ao x.ns.length cap, .int .u64 x.st.a, .int .u64 x.st.b, .int .u64 x.st.c, .int .u64 x.st.d, .slice ak x.ks.length ck] 55)).heap.size) := Lib.hid (by simp)
   have HK := Lib.hid hV.ks
   clear hm hn ih hV
   by_cases h3 : x.ks.length ≤ 3
   · have q3 : ((3 : Int) < (x.ks.length : Int)) = False := by simp; omega
     by_cases h20 : x.ns.length ≤ 20
     · have q20 : ((20 : Int) < (x.ns.length : Int)) = False := by simp; omega
       have HM2 : Hid (smX m x = x.ks.all (smX n)) := Lib.hid (by rw [HM.out, decide_eq_true ⟨h3, h20⟩, Bool.true_and])
       clear HM h3 h20
       go_enter Tryz.func10, Tryz.ntmps10
       go_upto_region 1 with fail
       generalize w.alloc (.cells #[.int .i64 x.op, .int .i64 x.a, .int .i64 x.r, .int .i64 x.b, .slice ao x.ns.length cap, .int .u64 x.st.a, .int .u64 x.st.b, .int .u64 x.st.c, .int .u64 x.st.d, .slice ak x.ks.length ck] 55) = W at *
       obtain ⟨y0, y1, y2, y3, y4, y5, y6, y7, y8, y9⟩ := HX.out.cells
       generalize hgx : w.heap.size = gx at *
       go_wp2_with fail
       go_loopw [5] (fun v5 wr => ∃ i : Nat, i ≤ x.ks.length ∧ v5 = .int .i64 i ∧ Hid (∀ j (hj : j < x.ks.length), j < i → smX n x.ks[j] = true) ∧ Hid (XC wr gx 0 x.op x.a x.r x.b ao x.ns.length cap x.st ak x.ks.length ck) ∧ Hid (Below gx w wr) ∧ Hid (gx < wr.heap.size)) (fun v5 _ => x.ks.length - (intOf v5).toNat)
       case atStart => exact ⟨0, Nat.zero_le _, rfl, Lib.hid (fun j _ h => absurd h (by omega)), HX, HB, HG⟩
       case round =>
        clear HX HB HG y0 y1 y2 y3 y4 y5 y6 y7 y8 y9
        obtain ⟨i, hi, rfl, HJ, HX1, HB1, HG1⟩ := hrel
        obtain ⟨y0, y1, y2, y3, y4, y5, y6, y7, y8, y9⟩ := HX1.out.cells
        clear y0 y1 y2 y3 y4 y5 y6 y7 y8
        by_cases hlt : i < x.ks.length
        · have hlt' : (i : Int) < (x.ks.length : Int) := by omega
          obtain ⟨y, hy⟩ : ∃ y, x.ks[i] = y := ⟨_, rfl⟩
          obtain ⟨g', o', hak, hg', hR⟩ := HK.out.row hlt
          subst hak
          have hA := hR i hlt
          rw [hy] at hA
          have hA2 : XAt wr g' (o' + i * 10) y := hA.keep (by rw [hgx]; exact HB1.out) hg'
          obtain ⟨ao2, cap2, ak2, ck2, hc2, hv2⟩ := hA2.xv
          obtain ⟨z0, z1, z2, z3, z4, z5, z6, z7, z8, z9⟩ := hc2.cells
          have HV2 := Lib.hid hv2
          have HY := Lib.hid hy
          clear hA hA2 hR hg' hy hc2 hv2
          obtain ⟨bb, hb⟩ : ∃ bb, smX n y = bb := ⟨_, rfl⟩
          have HBB := Lib.hid hb
          have HCL : Hid (Calls Tryz.prog 10 #[.agg #[.int .i64 y.op, .int .i64 y.a, .int .i64 y.r, .int .i64 y.b, .slice ao2 y.ns.length cap2, .int .u64 y.st.a, .int .u64 y.st.b, .int .u64 y.st.c, .int .u64 y.st.d, .slice ak2 y.ks.length ck2], .int .i64 ((m : Int) - 1)] wr fun e w' => e = .returned (.bool bb) ∧ Below wr.heap.size wr w') := Lib.hid (by
           rw [← hb, HSB.out]
           exact HIH.out y _ _ wr HN.out HV2.out)
          clear hb
          cases bb with
          | false =>
            go_wp2_with (go_at_call 10; (with_reducible refine HCL.out.mono ?_); rintro e w1 ⟨rfl, hb1⟩; have HB2 := Lib.hid (HB1.out.trans (hb1.mono (Nat.le_of_lt HG1.out))); clear hb1)
            go_ret
            exact ⟨ret_bool (by rw [HM2.out, all_no' hlt (by rw [HY.out]; exact HBB.out)]), by first | exact HB2.out | (rw [hgx]; exact HB2.out)⟩
          | true =>
            go_wp2_with (go_at_call 10; (with_reducible refine HCL.out.mono ?_); rintro e w1 ⟨rfl, hb1⟩; have HB2 := Lib.hid (HB1.out.trans (hb1.mono (Nat.le_of_lt HG1.out))); have HX2 := Lib.hid (HX1.out.keep (hb1.block gx HG1.out)); have HG2 := Lib.hid (Nat.lt_of_lt_of_le HG1.out hb1.size); clear hb1)
            go_roundw
            case rel =>
             refine ⟨i + 1, hlt, by go_num, Lib.hid (fun j hj hji => ?_), HX2, HB2, HG2⟩
             by_cases e : j < i
             · exact HJ.out j hj e
             · obtain rfl : j = i := by omega
               rw [HY.out]; exact HBB.out
            case measure => simp [intOf]; omega
        · have hlt' : ¬ (i : Int) < (x.ks.length : Int) := by omega
          have HF : Hid (smX m x = true) := Lib.hid (by rw [HM2.out]; exact all_yes' fun j hj => HJ.out j hj (by omega))
          go_wp2_with fail
          go_ret
          exact ⟨ret_bool HF.out.symm, by first | exact HB1.out | (rw [hgx]; exact HB1.out)⟩
     · have q20 : ((20 : Int) < (x.ns.length : Int)) = True := by simp; omega
       have HM2 : Hid (smX m x = false) := Lib.hid (by rw [HM.out, decide_eq_false (fun h => h20 h.2)]; rfl)
       clear HM h3 h20
       obtain ⟨y0, y1, y2, y3, y4, y5, y6, y7, y8, y9⟩ := HX.out.cells
       go_enter Tryz.func10, Tryz.ntmps10
       go_wp2_with fail
       go_ret
       exact ⟨ret_bool HM2.out.symm, HB.out⟩
   · have q3 : ((3 : Int) < (x.ks.length : Int)) = True := by simp; omega
     have HM2 : Hid (smX m x = false) := Lib.hid (by rw [HM.out, decide_eq_false (fun h => h3 h.1)]; rfl)
     clear HM h3
     obtain ⟨y0, y1, y2, y3, y4, y5, y6, y7, y8, y9⟩ := HX.out.cells
     go_enter Tryz.func10, Tryz.ntmps10
     go_wp2_with fail
     go_ret
     exact ⟨ret_bool HM2.out.symm, HB.out⟩
open Go.RowKit Go
def hitX (a : Int) (x : X) : Bool := decide ((x.op = 8 ∧ (x.a = a ∨ x.b = a)) ∨ (x.op = 9 ∧ x.a = a))
def mnX (a : Int) : Nat → X → Bool
 | 0, _ => false
 | n + 1, x => hitX a x || x.ks.any (mnX a n)
theorem any_yes {F : X → Bool} {ks : List X} {i : Nat} (hi : i < ks.length) (h : F ks[i] = true) : ks.any F = true := List.any_eq_true.2 ⟨_, List.getElem_mem hi, h⟩
theorem any_no {F : X → Bool} {ks : List X} (h : ∀ j (hj : j < ks.length), F ks[j] = false) : ks.any F = false := by
 rw [List.any_eq_false]
 intro x hx
 obtain ⟨j, hj, rfl⟩ := List.getElem_of_mem hx
 rw [h j hj]; simp
theorem sm_kid {n : Nat} {x : X} (h : smX (n + 1) x = true) {i : Nat} (hi : i < x.ks.length) : smX n x.ks[i] = true := by
 have e : smX (n + 1) x = (decide (x.ks.length ≤ 3 ∧ x.ns.length ≤ 20) && x.ks.all (smX n)) := rfl
 rw [e, Bool.and_eq_true, List.all_eq_true] at h
 exact h.2 _ (List.getElem_mem hi)
end Go.Proofs.YtbhoofihnmmmfabGreat
