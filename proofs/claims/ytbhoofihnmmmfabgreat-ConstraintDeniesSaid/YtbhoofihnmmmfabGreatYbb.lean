/- Part of the proof: Pnd Pne Pnf. No conditions. -/
import Derived.Test.YtbhoofihnmmmfabGreatYba
namespace Go.Proofs.YtbhoofihnmmmfabGreat
open Go.RowKit Go
theorem nmE_nil (o pre : List ByteArray) : nmE o pre [] = 0 := by unfold nmE; rfl
theorem nmE_cons (o pre : List ByteArray) (x : ByteArray) (r : List ByteArray) : nmE o pre (x :: r) = if identB x = false then 10 else if inT x pre = true then 12 else if inT x o = true then 12 else nmE o (pre ++ [x]) r := by rw [nmE]
theorem nmE_at (o l : List ByteArray) {i : Nat} (hi : i < l.length) : nmE o (l.take i) (l.drop i) = if identB l[i] = false then 10 else if inT l[i] (l.take i) = true then 12 else if inT l[i] o = true then 12 else nmE o (l.take (i + 1)) (l.drop (i + 1)) := by
 rw [List.drop_eq_getElem_cons hi, nmE_cons, List.take_succ_eq_append_getElem hi]
theorem Strs.take {w : World} {ao : Option Addr} {n cap : Nat} {l : List ByteArray} (h : Strs w (.slice ao n cap) l) {i cap' : Nat} (hi : i ≤ l.length) : Strs w (.slice ao i cap') (l.take i) := by
 obtain ⟨a2, c2, e, hr⟩ := h
 simp only [Value.slice.injEq] at e
 obtain ⟨rfl, rfl, rfl⟩ := e
 refine ⟨ao, cap', by simp [Nat.min_eq_left hi], fun hne => ?_⟩
 obtain ⟨g, o, e, hR⟩ := hr (fun e => by subst e; simp at hne)
 refine ⟨g, o, e, fun k hk => ?_⟩
 have hk2 : k < l.length := by simp at hk; omega
 rw [hR k hk2]
 simp
set_option maxRecDepth 100000 in
set_option maxHeartbeats 16000000 in
theorem nnames_c (v u : Value) (l o : List ByteArray) (w : World) (hS : Strs w v l) (hcap : CapOK v l.length) (hO : Strs w u o) (hT : TxW l) (hn : l.length ≤ maxLen) (hm : o.length ≤ maxLen) : Calls Tryz.prog 48 #[v, u] w fun e w' => e = .returned (.int .i64 (namesE l o)) ∧ Below w.heap.size w w' := by
 obtain ⟨R, hR⟩ : ∃ R, namesE l o = R := ⟨_, rfl⟩
 rw [hR]
 have HS := Lib.hid hS
 have HO := Lib.hid hO
 have HM := Lib.hid hm
 have HNM := Lib.hid hn
 have HT := Lib.hid hT
 obtain ⟨ao, cap, rfl, hcl⟩ := hcap
 have HR : Hid (nmE o (l.take 0) (l.drop 0) = R) := Lib.hid hR
 have hnI : (l.length : Int) ≤ 9223372036854775807 := by unfold maxLen at hn; omega
 clear hR hS hO hT hn hm
 go_enter Tryz.func48, Tryz.ntmps48
 go_wp2_with fail
 go_loopw [5] (fun vi wr => ∃ i : Nat, i ≤ l.length ∧ vi = .int .i64 i ∧ Hid (nmE o (l.take i) (l.drop i) = R) ∧ Hid (Kp w wr)) (fun vi _ => l.length - (intOf vi).toNat)
 case atStart => exact ⟨0, Nat.zero_le _, rfl, HR, Lib.hid Kp.rfl'⟩
 case round =>
  clear HR
  obtain ⟨i, hi, rfl, HJ, HK⟩ := hrel
  by_cases hlt : i < l.length
  · have hlt' : (i : Int) < (l.length : Int) := by omega
    obtain ⟨x, hx⟩ : ∃ x, l[i] = x := ⟨_, rfl⟩
    obtain ⟨b1, hb1⟩ : ∃ b, identB x = b := ⟨_, rfl⟩
    obtain ⟨b2, hb2⟩ : ∃ b, inT x (l.take i) = b := ⟨_, rfl⟩
    obtain ⟨b3, hb3⟩ : ∃ b, inT x o = b := ⟨_, rfl⟩
    have HV : Hid ((if b1 = false then 10 else if b2 = true then 12 else if b3 = true then 12 else nmE o (l.take (i + 1)) (l.drop (i + 1))) = R) := Lib.hid (by rw [← HJ.out, nmE_at o l hlt, hx, ← hb1, ← hb2, ← hb3])
    have hxs : x.size ≤ 9223372036854775807 := by rw [← hx]; exact HT.out _ (List.getElem_mem hlt)
    have HCI : Hid (∀ u, Kp wr u → Calls Tryz.prog 81 #[.string x] u fun e w' => e = .returned (.bool b1) ∧ w' = u) := Lib.hid (fun u hu => by rw [← hb1]; exact nident_c x u hxs)
    have HW1 : Hid (∀ u, Kp wr u → Calls Tryz.prog 82 #[.string x, .slice ao i cap] u fun e w' => e = .returned (.bool b2) ∧ w' = u) := Lib.hid (fun u hu => by rw [← hb2]; exact nwithin_c x _ _ u ((HS.out.keep (kp_trans HK.out hu)).take (by omega)) (by have := HNM.out; simp; omega))
    have HW2 : Hid (∀ u1, Kp wr u1 → Calls Tryz.prog 82 #[.string x, u] u1 fun e w' => e = .returned (.bool b3) ∧ w' = u1) := Lib.hid (fun u1 hu => by rw [← hb3]; exact nwithin_c x _ _ _ (HO.out.keep (kp_trans HK.out hu)) HM.out)
    obtain ⟨a2, c2, e, hr⟩ := HS.out
    simp only [Value.slice.injEq] at e
    obtain ⟨rfl, -, rfl⟩ := e
    obtain ⟨g, oo, rfl, q⟩ := hr (by rintro rfl; simp at hlt)
    have hgl := q.lt (by omega)
    have q := q i hlt
    rw [hx] at q
    have HE : Hid (∀ u, Kp wr u → u.cell? ⟨g, oo + i, none⟩ = some (.string x)) := Lib.hid (fun u hu => (Below.cell (kp_trans HK.out hu) (p := ⟨g, oo + i, none⟩) hgl).trans q)
    have r0 := HE.out wr Kp.rfl'
    have hcl' : (i : Int) ≤ (cap : Int) := by omega
    have hcl2 : i ≤ cap := by omega
    clear hr hgl q hxs hb1 hb2 hb3 hx HJ
    cases b1 with
    | false =>
      go_wp2_with (go_at_call 81; (with_reducible refine (HCI.out _ Kp.rfl').mono ?_); rintro e w2 ⟨rfl, rfl⟩)
      go_ret
      exact ⟨by rw [← HV.out] <;> rfl, HK.out⟩
    | true =>
      go_upto_region 6 with (go_at_call 81; (with_reducible refine (HCI.out _ Kp.rfl').mono ?_); rintro e w2 ⟨rfl, rfl⟩)
      refine wp_region_kp (by kernel_rfl) (by kernel_rfl) ?_
      repeat' (first | go_big_quiet_skip | (go_big_quiet_want; first | (go_big_quiet_op; first | go_big_quiet_on | (apply Exists.intro; refine ⟨fun w1 hC => ?_, ?_⟩; (first | (go_at_call 82; with_reducible exact hC.call_same (HW1.out _ hC)) | (go_at_call 82; with_reducible exact hC.call_same (HW2.out _ hC)) | (have y0 := HE.out w1 hC; go_simp; exact rfl) | exact rfl | (go_simp; exact ⟨rfl, rfl⟩)); go_big_quiet_on))) | (cases b2 <;> try simp only [Bool.not_true, Bool.not_false]) | (cases b3 <;> try simp only [Bool.not_true, Bool.not_false]))
      all_goals refine wpQuiet_nil ?_
      all_goals intro W1 hC
      all_goals have HF := Lib.hid (kp_trans HK.out hC)
      all_goals clear hC
      all_goals go_wp2_with fail
      all_goals first
       | (go_ret; exact ⟨by rw [← HV.out] <;> rfl, HF.out⟩)
       | (go_roundw
          case rel => exact ⟨i + 1, hlt, by go_num, Lib.hid (by rw [← HV.out] <;> rfl), HF⟩
          case measure => simp [intOf]; omega)
  · have hlt' : ¬ (i : Int) < (l.length : Int) := by omega
    obtain rfl : 0 = R := by rw [← HJ.out, List.drop_eq_nil_of_le (by omega), nmE_nil]
    clear HJ
    go_wp2_with fail
    go_ret
    exact ⟨rfl, HK.out⟩
set_option maxRecDepth 100000 in
set_option maxHeartbeats 16000000 in
theorem nfirst_c (v : Value) (L : List Int) (w : World) (hS : SlR 1 (fun w g o x => w.cell? ⟨g, o, none⟩ = some (.int .i64 x)) w v L) (hn : L.length ≤ maxLen) : Calls Tryz.prog 24 #[v] w fun e w' => e = .returned (.int .i64 (fstE L)) ∧ w' = w := by
 obtain ⟨R, hR⟩ : ∃ R, fstE L = R := ⟨_, rfl⟩
 rw [hR]
 obtain ⟨ao, cap, rfl⟩ := hS.form
 have HS := Lib.hid hS
 have HR : Hid (fstE (L.drop 0) = R) := Lib.hid hR
 have hnI : (L.length : Int) ≤ 9223372036854775807 := by unfold maxLen at hn; omega
 clear hR hn hS
 go_enter Tryz.func24, Tryz.ntmps24
 go_wp2_with fail
 go_loop [3] (fun vi => ∃ i : Nat, i ≤ L.length ∧ vi = .int .i64 i ∧ Hid (fstE (L.drop i) = R)) (fun vi => L.length - (intOf vi).toNat)
 case atStart => exact ⟨0, Nat.zero_le _, rfl, HR⟩
 case round =>
  clear HR
  obtain ⟨i, hi, rfl, HJ⟩ := hrel
  by_cases hlt : i < L.length
  · have hlt' : (i : Int) < (L.length : Int) := by omega
    obtain ⟨g, o, hak, hg, hE⟩ := HS.out.row hlt
    subst hak
    have q := hE i hlt
    obtain ⟨x, hx⟩ : ∃ x, L[i] = x := ⟨_, rfl⟩
    rw [hx] at q
    simp only [Nat.mul_one] at q
    have HV : Hid ((if x ≠ 0 then x else fstE (L.drop (i + 1))) = R) := Lib.hid (by rw [← HJ.out, List.drop_eq_getElem_cons hlt, fstE, hx])
    clear hx HJ hE hg
    by_cases h0 : x = 0
    · subst h0
      have HV2 : Hid (fstE (L.drop (i + 1)) = R) := Lib.hid (by rw [← HV.out, if_neg (by simp)])
      clear HV
      go_wp2_with fail
      exact ⟨⟨i + 1, hlt, by simp, HV2⟩, by simp [intOf]; omega⟩
    · obtain rfl : x = R := by rw [← HV.out, if_pos h0]
      have hb : (x == 0) = false := by simpa using h0
      have hb2 : (x != 0) = true := by simpa using h0
      clear HV
      go_wp2_with fail
      go_ret
      exact ⟨rfl, rfl⟩
  · have hlt' : ¬ (i : Int) < (L.length : Int) := by omega
    obtain rfl : 0 = R := by rw [← HJ.out, List.drop_eq_nil_of_le (by omega)]; rfl
    clear HJ
    go_wp2_with fail
    go_ret
    exact ⟨rfl, rfl⟩
open Go.RowKit Go
theorem objC_no {s : ByteArray} {i : Nat} (hi : i < s.size) (h : objO (chI s i) = false) : objC s = false := by
 unfold objC
 rw [List.all_eq_false]
 exact ⟨i, List.mem_range.2 hi, by rw [h]; simp⟩
theorem objC_yes {s : ByteArray} (h : ∀ i, i < s.size → objO (chI s i) = true) : objC s = true := by
 unfold objC
 rw [List.all_eq_true]
 exact fun i hi => h i (List.mem_range.1 hi)
set_option maxRecDepth 100000 in
set_option maxHeartbeats 16000000 in
theorem nobj_c (s : ByteArray) (w : World) (hs : s.size ≤ 9223372036854775807) : Calls Tryz.prog 61 #[.string s] w fun e w' => e = .returned (.bool (objB s)) ∧ Below w.heap.size w w' := by
 obtain ⟨R, hR⟩ : ∃ R, objB s = R := ⟨_, rfl⟩
 rw [hR]
 have HR := Lib.hid hR
 clear hR
 go_enter Tryz.func61, Tryz.ntmps61
 go_wp2_with fail
 go_loopw [3] (fun vi wr => ∃ i : Nat, i ≤ s.size ∧ vi = .int .i64 i ∧ Hid (∀ k, k < i → objO (chI s k) = true) ∧ Hid (Kp w wr)) (fun vi _ => s.size - (intOf vi).toNat)
 case atStart => exact ⟨0, Nat.zero_le _, rfl, Lib.hid (fun k h => absurd h (by omega)), Lib.hid Kp.rfl'⟩
 case round =>
  obtain ⟨i, hi, rfl, HJ, HK⟩ := hrel
  by_cases hlt : i < s.size
  · have hl : (i : Int) < (s.size : Int) := by omega
    have hc := chI_lt hlt
    obtain ⟨b1, hb1⟩ : ∃ b, decide ((s[i].toNat : Int) < 33) = b := ⟨_, rfl⟩
    obtain ⟨b2, hb2⟩ : ∃ b, decide ((126 : Int) < (s[i].toNat : Int)) = b := ⟨_, rfl⟩
    obtain ⟨b3, hb3⟩ : ∃ b, ((s[i].toNat : Int) == 34) = b := ⟨_, rfl⟩
    obtain ⟨b4, hb4⟩ : ∃ b, ((s[i].toNat : Int) == 47) = b := ⟨_, rfl⟩
    have HV : Hid (objO (chI s i) = !(b1 || (b2 || (b3 || b4)))) := Lib.hid (by rw [hc, ← hb1, ← hb2, ← hb3, ← hb4]; rfl)
    clear hc
    cases b4
    all_goals go_upto_region 4 with fail
    all_goals refine wp_region_kq ?_
    repeat' (first | go_big_quiet_skip | (go_big_quiet_want; first | (go_big_quiet_op; first | go_big_quiet_on | (apply Exists.intro; refine ⟨fun w1 hC => ?_, ?_⟩; (first | exact rfl | (go_simp; exact ⟨rfl, rfl⟩)); go_big_quiet_on))) | (cases b1 <;> try simp only [Bool.not_true, Bool.not_false]) | (cases b2 <;> try simp only [Bool.not_true, Bool.not_false]) | (cases b3 <;> try simp only [Bool.not_true, Bool.not_false]))
    all_goals refine wpQuiet_nil ?_
    all_goals intro W1 hC
    all_goals have HF := Lib.hid (kp_trans HK.out hC)
    all_goals clear hC
    all_goals go_wp2_with fail
    all_goals first
     | (go_ret; exact ⟨ret_bool (by rw [← HR.out]; unfold objB; rw [objC_no hlt (by rw [HV.out] <;> rfl)]; rfl), HF.out⟩)
     | (go_roundw
        case rel =>
         refine ⟨i + 1, hlt, by go_num, Lib.hid (fun k hk => ?_), HF⟩
         by_cases e : k < i
         · exact HJ.out k e
         · obtain rfl : k = i := by omega
           rw [HV.out] <;> rfl
        case measure => simp [intOf]; omega)
  · obtain rfl : i = s.size := by omega
    have HC : Hid (objC s = true) := Lib.hid (objC_yes fun k hk => HJ.out k hk)
    clear HJ
    by_cases h1 : (1 : Int) ≤ (s.size : Int)
    · obtain rfl : R = decide ((s.size : Int) ≤ 32) := by rw [← HR.out]; unfold objB; rw [HC.out, decide_eq_true h1]; rfl
      go_wp2_with fail
      go_ret
      exact ⟨rfl, HK.out⟩
    · obtain rfl : R = false := by rw [← HR.out]; unfold objB; rw [HC.out, decide_eq_false h1]; rfl
      go_wp2_with fail
      go_ret
      exact ⟨rfl, HK.out⟩
open Go.RowKit Go
theorem lvlsL_app (m : Nat) (a : List X) (x : X) : lvlsL m (a ++ [x]) = max (lvlsL m a) (lvls m x) := by
 induction a with
 | nil => simp [lvlsL]
 | cons y r ih => simp only [List.cons_append, lvlsL, ih]; omega
theorem lvls_succ (m : Nat) (x : X) : lvls (m + 1) x = lvlsL m x.ks + 1 := by
 cases x; rw [lvls]; rfl
theorem lvlsL_take {m : Nat} {ks : List X} {i : Nat} (hi : i < ks.length) : lvlsL m (ks.take (i + 1)) = max (lvlsL m (ks.take i)) (lvls m ks[i]) := by
 rw [List.take_succ_eq_append_getElem hi, lvlsL_app]
mutual
theorem lvls_le : ∀ (m : Nat) (x : X), lvls m x ≤ m
 | 0, x => by cases x; simp [lvls]
 | m + 1, .mk _ _ _ _ _ _ ks => by
   rw [lvls]
   have := lvlsL_le m ks
   omega
theorem lvlsL_le : ∀ (m : Nat) (ks : List X), lvlsL m ks ≤ m
 | m, [] => by simp [lvlsL]
 | m, k :: r => by
   rw [lvlsL]
   have := lvls_le m k
   have := lvlsL_le m r
   omega
end
theorem lvlsL_mem {m : Nat} {ks : List X} {i : Nat} (hi : i < ks.length) : lvls m ks[i] ≤ lvlsL m ks := by
 induction ks generalizing i with
 | nil => simp at hi
 | cons k r ih =>
   rw [lvlsL]
   cases i with
   | zero => simp; omega
   | succ i =>
     have := ih (i := i) (by simpa using hi)
     simp only [List.getElem_cons_succ]
     omega
set_option maxRecDepth 100000 in
set_option maxHeartbeats 16000000 in
theorem nlevels_c : ∀ (n : Nat) (x : X) (vn vk : Value) (w : World), n ≤ 100 → XV w vn vk x → Calls Tryz.prog 47 #[.agg #[.int .i64 x.op, .int .i64 x.a, .int .i64 x.r, .int .i64 x.b, vn, .int .u64 x.st.a, .int .u64 x.st.b, .int .u64 x.st.c, .int .u64 x.st.d, vk], .int .i64 n] w fun e w' => e = .returned (.int .i64 (lvls n x)) ∧ Below w.heap.size w w' := by
 intro n
 induction n with
 | zero =>
   intro x vn vk w _ _
   have HB := Lib.hid ((Below.refl w.heap.size w).alloc (Nat.le_refl _) (.cells #[.int .i64 x.op, .int .i64 x.a, .int .i64 x.r, .int .i64 x.b, vn, .int .u64 x.st.a, .int .u64 x.st.b, .int .u64 x.st.c, .int .u64 x.st.d, vk] 55))
   have e : lvls 0 x = 0 := by cases x; rfl
   rw [e]
   go_enter Tryz.func47, Tryz.ntmps47
   go_wp2_with fail
   go_ret
   exact ⟨rfl, HB.out⟩
 | succ n ih =>
   intro x vn vk w hn hV
   have HIH := Lib.hid ih
   rw [lvls_succ]
   obtain ⟨m, hm⟩ : ∃ m : Nat, n + 1 = m := ⟨_, rfl⟩
   rw [hm]
   have HSB : Hid ((m : Int) - 1 = (n : Int)) := Lib.hid (by omega)
   have hz : ((m : Int) == 0) = false := by simp; omega
   have hm1 : 1 ≤ m ∧ m ≤ 101 := by omega
   have HN : Hid (n ≤ 100) := Lib.hid (by omega)
   have hkI : (x.ks.length : Int) ≤ 9223372036854775807 := by have h := hV.wf.nk; unfold maxLen at h; omega
   obtain ⟨ao, cap, ak, ck, rfl, rfl⟩ := hV.form
   obtain ⟨W, ZW⟩ : ∃ v, Hid ((w.alloc (.cells #[.int .i64 x.op, .int .i64 x.a, .int .i64 x.r, .int .i64 x.b, .slice ao x.ns.length cap, .int .u64 x.st.a, .int .u64 x.st.b, .int .u64 x.st.c, .int .u64 x.st.d, .slice ak x.ks.length ck] 55)) = v) := ⟨_, Lib.hid rfl⟩
   have HX : Hid (XC W w.heap.size 0 x.op x.a x.r x.b ao x.ns.length cap x.st ak x.ks.length ck) := by cases ZW.out; exact Lib.hid (XC.of_blk (Blk.new w _ _))
   have HB : Hid (Below w.heap.size w W) := by cases ZW.out; exact Lib.hid ((Below.refl _ _).alloc (Nat.le_refl _) _)
   have HG : Hid (w.heap.size < W.heap.size) := by cases ZW.out; exact Lib.hid (by simp)
   have HK := Lib.hid hV.ks
   obtain ⟨R, hR⟩ : ∃ R : Nat, lvlsL n x.ks = R := ⟨_, rfl⟩
   rw [hR]
   have HR := Lib.hid hR
   have hRb : R ≤ n := by rw [← hR]; exact lvlsL_le _ _
   have hRb2 : R ≤ 100 := by omega
   clear hm hn ih hV hR hRb
   go_enter Tryz.func47, Tryz.ntmps47
   go_upto_region 1 with fail
   rw [ZW.out]
   generalize hgx : w.heap.size = gx at *
   obtain ⟨y0, y1, y2, y3, y4, y5, y6, y7, y8, y9⟩ := HX.out.cells
   clear y0 y1 y2 y3 y4 y5 y6 y7 y8
   go_wp2_with fail
   go_loopw [5, 6] (fun v5 v6 wr => ∃ i a : Nat, i ≤ x.ks.length ∧ v6 = .int .i64 i ∧ v5 = .int .i64 a ∧ a ≤ 100 ∧ Hid (lvlsL n (x.ks.take i) = a) ∧ Hid (XC wr gx 0 x.op x.a x.r x.b ao x.ns.length cap x.st ak x.ks.length ck) ∧ Hid (Below gx w wr) ∧ Hid (gx < wr.heap.size)) (fun _ v6 _ => x.ks.length - (intOf v6).toNat)
   case atStart => exact ⟨0, 0, Nat.zero_le _, rfl, rfl, by omega, Lib.hid (by rw [List.take_zero]; rfl), HX, HB, HG⟩
   case round =>
    clear HX HB HG y9
    obtain ⟨i, a, hi, rfl, rfl, ha, HJ, HX1, HB1, HG1⟩ := hrel
    obtain ⟨y0, y1, y2, y3, y4, y5, y6, y7, y8, y9⟩ := HX1.out.cells
    clear y0 y1 y2 y3 y4 y5 y6 y7 y8
    by_cases hlt : i < x.ks.length
    · have hlt' : (i : Int) < (x.ks.length : Int) := by omega
      obtain ⟨y, hy⟩ : ∃ y, x.ks[i] = y := ⟨_, rfl⟩
      obtain ⟨g', o', hak, hg', hR⟩ := HK.out.row hlt
      subst hak
      have hA := hR i hlt
      rw [hy] at hA
      have hA2 : XAt wr g' (o' + i * 10) y := hA.keep (by rw [hgx]; exact HB1.out) hg'
      obtain ⟨ao2, cap2, ak2, ck2, hc2, hv2⟩ := hA2.xv
      obtain ⟨z0, z1, z2, z3, z4, z5, z6, z7, z8, z9⟩ := hc2.cells
      have HV2 := Lib.hid hv2
      obtain ⟨c, hc⟩ : ∃ c, lvls n y = c := ⟨_, rfl⟩
      have hc100 : c ≤ 100 := by rw [← hc]; exact Nat.le_trans (lvls_le _ _) HN.out
      have HMX : Hid (lvlsL n (x.ks.take (i + 1)) = max a c) := Lib.hid (by rw [lvlsL_take hlt, HJ.out, hy, hc])
      have HCL : Hid (Calls Tryz.prog 47 #[.agg #[.int .i64 y.op, .int .i64 y.a, .int .i64 y.r, .int .i64 y.b, .slice ao2 y.ns.length cap2, .int .u64 y.st.a, .int .u64 y.st.b, .int .u64 y.st.c, .int .u64 y.st.d, .slice ak2 y.ks.length ck2], .int .i64 ((m : Int) - 1)] wr fun e w' => e = .returned (.int .i64 c) ∧ Below wr.heap.size wr w') := Lib.hid (by
       rw [← hc, HSB.out]
       exact HIH.out y _ _ wr HN.out HV2.out)
      clear hA hA2 hR hg' hy hc2 hv2 hc HJ
      by_cases hac : a < c
      · have q1 : ((a : Int) < (c : Int)) = True := by simp; omega
        have q2 : ((c : Int) < (a : Int)) = False := by simp; omega
        have q3 : ((a : Int) ≤ (c : Int)) = True := by simp; omega
        have HM2 : Hid (lvlsL n (x.ks.take (i + 1)) = c) := Lib.hid (by rw [HMX.out]; omega)
        clear HMX
        go_wp2_with (go_at_call 47; (with_reducible refine HCL.out.mono ?_); rintro e w1 ⟨rfl, hb1⟩; have HB2 := Lib.hid (HB1.out.trans (hb1.mono (Nat.le_of_lt HG1.out))); have HX2 := Lib.hid (HX1.out.keep (hb1.block gx HG1.out)); have HG2 := Lib.hid (Nat.lt_of_lt_of_le HG1.out hb1.size); clear hb1)
        go_roundw
        case rel => exact ⟨i + 1, c, hlt, by go_num, by first | rfl | (congr 1; omega), hc100, HM2, HX2, HB2, HG2⟩
        case measure => simp [intOf]; omega
      · have q1 : ((a : Int) < (c : Int)) = False := by simp; omega
        have HM2 : Hid (lvlsL n (x.ks.take (i + 1)) = a) := Lib.hid (by rw [HMX.out]; omega)
        clear HMX
        go_wp2_with (go_at_call 47; (with_reducible refine HCL.out.mono ?_); rintro e w1 ⟨rfl, hb1⟩; have HB2 := Lib.hid (HB1.out.trans (hb1.mono (Nat.le_of_lt HG1.out))); have HX2 := Lib.hid (HX1.out.keep (hb1.block gx HG1.out)); have HG2 := Lib.hid (Nat.lt_of_lt_of_le HG1.out hb1.size); clear hb1)
        go_roundw
        case rel => exact ⟨i + 1, a, hlt, by go_num, by first | rfl | (congr 1; omega), ha, HM2, HX2, HB2, HG2⟩
        case measure => simp [intOf]; omega
    · have hlt' : ¬ (i : Int) < (x.ks.length : Int) := by omega
      have ea : a = R := by rw [← HJ.out, List.take_of_length_le (by omega), HR.out]
      subst ea
      clear HJ
      go_wp2_with fail
      go_ret
      exact ⟨by first | rfl | simp, by first | exact HB1.out | (rw [hgx]; exact HB1.out)⟩
set_option maxRecDepth 100000 in
set_option maxHeartbeats 16000000 in
theorem nLevels_c (x : X) (vn vk : Value) (w : World) (hV : XV w vn vk x) : Calls Tryz.prog 23 #[.agg #[.int .i64 x.op, .int .i64 x.a, .int .i64 x.r, .int .i64 x.b, vn, .int .u64 x.st.a, .int .u64 x.st.b, .int .u64 x.st.c, .int .u64 x.st.d, vk]] w fun e w' => e = .returned (.int .i64 (lvls 13 x)) ∧ Below w.heap.size w w' := by
 obtain ⟨ao, cap, ak, ck, rfl, rfl⟩ := hV.form
 obtain ⟨W, ZW⟩ : ∃ v, Hid ((w.alloc (.cells #[.int .i64 x.op, .int .i64 x.a, .int .i64 x.r, .int .i64 x.b, .slice ao x.ns.length cap, .int .u64 x.st.a, .int .u64 x.st.b, .int .u64 x.st.c, .int .u64 x.st.d, .slice ak x.ks.length ck] 55)) = v) := ⟨_, Lib.hid rfl⟩
 have HX : Hid (XC W w.heap.size 0 x.op x.a x.r x.b ao x.ns.length cap x.st ak x.ks.length ck) := by cases ZW.out; exact Lib.hid (XC.of_blk (Blk.new w _ _))
 have HB : Hid (Below w.heap.size w W) := by cases ZW.out; exact Lib.hid ((Below.refl _ _).alloc (Nat.le_refl _) _)
 have HLE : Hid (w.heap.size ≤ W.heap.size) := by cases ZW.out; exact Lib.hid HB.out.size
 have HV : Hid (XV W (.slice ao x.ns.length cap) (.slice ak x.ks.length ck) x) := by cases ZW.out; exact Lib.hid (hV.keep HB.out)
 clear hV
 go_enter Tryz.func23, Tryz.ntmps23
 go_upto_region 1 with fail
 rw [ZW.out]
 generalize hgx : w.heap.size = gx at *
 obtain ⟨y0, y1, y2, y3, y4, y5, y6, y7, y8, y9⟩ := HX.out.cells
 have HCL : Hid (Calls Tryz.prog 47 #[.agg #[.int .i64 x.op, .int .i64 x.a, .int .i64 x.r, .int .i64 x.b, .slice ao x.ns.length cap, .int .u64 x.st.a, .int .u64 x.st.b, .int .u64 x.st.c, .int .u64 x.st.d, .slice ak x.ks.length ck], .int .i64 13] W fun e w' => e = .returned (.int .i64 (lvls 13 x)) ∧ Below W.heap.size W w') := Lib.hid (by exact nlevels_c 13 x _ _ _ (by decide) HV.out)
 go_wp2_with (go_at_call 47; (with_reducible refine HCL.out.mono ?_); rintro e w1 ⟨rfl, hb1⟩; have HB2 := Lib.hid (HB.out.trans (hb1.mono HLE.out)); clear hb1)
 go_ret
 exact ⟨rfl, by first | exact HB2.out | (rw [hgx]; exact HB2.out)⟩
set_option maxRecDepth 100000 in
set_option maxHeartbeats 16000000 in
theorem nkids_c (op : Int) (w : World) : Calls Tryz.prog 114 #[.int .i64 op] w fun e w' => e = .returned (.int .i64 (kidsM op)) ∧ w' = w := by
 by_cases h1 : op = 1
 · subst h1
   go_enter Tryz.func114, Tryz.ntmps114
   go_wp2
   go_ret
   exact ⟨rfl, rfl⟩
 by_cases h8 : op = 8
 · subst h8
   go_enter Tryz.func114, Tryz.ntmps114
   go_wp2
   go_ret
   exact ⟨rfl, rfl⟩
 by_cases h9 : op = 9
 · subst h9
   go_enter Tryz.func114, Tryz.ntmps114
   go_wp2
   go_ret
   exact ⟨rfl, rfl⟩
 by_cases h2 : op = 2
 · subst h2
   go_enter Tryz.func114, Tryz.ntmps114
   go_wp2
   go_ret
   exact ⟨rfl, rfl⟩
 by_cases h3 : op = 3
 · subst h3
   go_enter Tryz.func114, Tryz.ntmps114
   go_wp2
   go_ret
   exact ⟨rfl, rfl⟩
 by_cases h4 : op = 4
 · subst h4
   go_enter Tryz.func114, Tryz.ntmps114
   go_wp2
   go_ret
   exact ⟨rfl, rfl⟩
 by_cases h5 : op = 5
 · subst h5
   go_enter Tryz.func114, Tryz.ntmps114
   go_wp2
   go_ret
   exact ⟨rfl, rfl⟩
 by_cases h6 : op = 6
 · subst h6
   go_enter Tryz.func114, Tryz.ntmps114
   go_wp2
   go_ret
   exact ⟨rfl, rfl⟩
 by_cases h7 : op = 7
 · subst h7
   go_enter Tryz.func114, Tryz.ntmps114
   go_wp2
   go_ret
   exact ⟨rfl, rfl⟩
 have e : kidsM op = -1 := by unfold kidsM; rw [if_neg h1]; rw [if_neg h8]; rw [if_neg h9]; rw [if_neg h2]; rw [if_neg h3]; rw [if_neg h4]; rw [if_neg h5]; rw [if_neg h6]; rw [if_neg h7]
 rw [e]
 have p1 : (op == 1) = false := by simpa using h1
 have p8 : (op == 8) = false := by simpa using h8
 have p9 : (op == 9) = false := by simpa using h9
 have p2 : (op == 2) = false := by simpa using h2
 have p3 : (op == 3) = false := by simpa using h3
 have p4 : (op == 4) = false := by simpa using h4
 have p5 : (op == 5) = false := by simpa using h5
 have p6 : (op == 6) = false := by simpa using h6
 have p7 : (op == 7) = false := by simpa using h7
 clear h1 h8 h9 h2 h3 h4 h5 h6 h7
 go_enter Tryz.func114, Tryz.ntmps114
 go_wp2
 go_ret
 exact ⟨rfl, rfl⟩
end Go.Proofs.YtbhoofihnmmmfabGreat
