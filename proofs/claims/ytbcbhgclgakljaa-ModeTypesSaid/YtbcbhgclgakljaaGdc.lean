/- slices.Clone of what is handed in. -/
import Derived.Test.YtbcbhgclgakljaaGdb
import Derived.Test.YtbcbhgclgakljaaMdf
namespace Go.Proofs.Ytbcbhgclgakljaa
open Go.RowKit Go.Maps
def infoB (P : Program) (e : TypeId) (sz by' : Nat) : Bool := match P.info? e with
  | some i => (match i.zero with | some z => z.cells.size == sz && i.size == sz && i.bytes == by' | none => false)
  | none => false
theorem infoB_parts {P : Program} {e : TypeId} {sz by' : Nat} (h : infoB P e sz by' = true) : ∃ i z, P.info? e = some i ∧ i.zero = some z ∧ i.size = sz ∧ i.bytes = by' ∧ z.cells.size = sz := by
  unfold infoB at h
  cases hi : P.info? e with
  | none => rw [hi] at h; cases h
  | some i =>
    rw [hi] at h
    cases hz : i.zero with
    | none => simp only [hz] at h; cases h
    | some z =>
      simp only [hz, Bool.and_eq_true, beq_iff_eq] at h
      exact ⟨i, z, rfl, hz, h.1.2, h.2, h.1.1⟩
theorem wpList_clone {P : Program} {te ts : TypeId} {sz by' n : Nat} {w : World} {ops : Array Oper} {rest : List Oper} {o : Oper} {a : Act} {Q : Exit → Act → World → Prop} (hu : P.underlying ts = some (.slice te)) (hi : infoB P te sz by' = true) (h0 : 0 < sz) (hgd : o.guard = none) (s x : Operand)
    (ho : o.op = .call { callee := .builtin .append, args := #[s, x], argTypes := #[ts, ts] }) (hs : a.eval s = .slice (some ⟨w.heap.size, 0, none⟩) 0 0) (ad : Addr) (c : Nat) (xs : List Value) (hx : a.eval x = .slice (some ad) n c) (hv : Sl sz by' w (.slice (some ad) n c) n xs)
    (h : ∀ v' w', w'.ownsRow w.heap.size te sz v' n xs → Below w.heap.size w w' → wpList P ops Q rest (a.put o.dst v') w') : wpList P ops Q (o :: rest) a (w.alloc (.cells #[] te)) := by
  obtain ⟨i0, z, h1, h2, h3, h4, h5⟩ := infoB_parts hi
  have hb : Below w.heap.size w (w.alloc (.cells #[] te)) := (Below.refl _ _).alloc (Nat.le_refl _) _
  rcases hv.below hb with ⟨e, _⟩ | ⟨a', c', e, e1, e2, e3, e4, e5, e6⟩
  · cases e
  · simp only [Value.slice.injEq, Option.some.injEq] at e
    obtain ⟨rfl, _, rfl⟩ := e
    refine wpList_append_own (w.alloc (.cells #[] te)) hgd s x ts ho w.heap.size te i0 z sz by' hu h1 h2 h3 h4 h5 h0 _ 0 [] hs (World.ownsRow_made w #[] 0 (Nat.le_refl _) (Nat.zero_le _) (by simp)) ad n c xs hx e4 e5 e6 (by omega) (by rw [Nat.zero_add]; exact e3) hb.size ?_
    intro v' w' g1 g2 _
    refine h v' w' (by simpa using g1) (hb.grown g2 (by simp) (by intro k hk; simp [Value.ownBlock] at hk; omega))
set_option maxRecDepth 100000 in
theorem cloneType_nil (w : World) : Calls Try.prog 80 #[.slice none 0 0] w fun e w' => e = .returned (.slice none 0 0) ∧ w' = w := by
  have q : ∀ (u : World) (a : Option Addr) (n c n' c' : Nat), (binOp .eql 46 (.slice a n c) (.slice none n' c')).run Try.prog u = .ok (.bool a.isNone) u := fun u a n c n' c' => Lib.run_eql_slice_nil u _ _ a n c n' c' Try.underlying46
  go_enter Try.func80, Try.ntmps80
  go_wp2_with fail
  go_ret
  exact ⟨rfl, rfl⟩
section
variable {w : World} {v : Value} {n : Nat} {xs : List Value}
theorem infoStr : infoB Try.prog 9 1 16 = true := by kernel_rfl
set_option maxRecDepth 100000 in
set_option maxHeartbeats 4000000 in
theorem cloneStr_c (h : Sl 1 16 w v n xs) : Calls Try.prog 58 #[v] w fun e w' => ∃ v', e = .returned v' ∧ w'.ownsRow w.heap.size 9 1 v' n xs ∧ Below w.heap.size w w' := by
  rcases id h with ⟨rfl, rfl, rfl⟩ | ⟨a, c, rfl, _⟩
  · exact (cloneStr_nil w).mono fun e w' ⟨he, hw⟩ => ⟨_, he, World.ownsRow_nil _ _ _ _, hw ▸ Below.refl _ _⟩
  · have q : ∀ (u : World) (a : Option Addr) (n c n' c' : Nat), (binOp .eql 51 (.slice a n c) (.slice none n' c')).run Try.prog u = .ok (.bool a.isNone) u := fun u a n c n' c' => Lib.run_eql_slice_nil u _ _ a n c n' c' Try.underlying51
    have HS := Lib.hid h
    clear h
    go_enter Try.func58, Try.ntmps58
    go_wp2_with (at_builtin; refine wpList_clone Try.underlying51 infoStr (by decide) rfl _ _ rfl rfl a c xs rfl HS.out ?_; intro v2 w2 h1 h2; have H1 := Lib.hid h1; have H2 := Lib.hid h2; clear h1 h2)
    go_ret
    exact ⟨_, rfl, H1.out, H2.out⟩
theorem infoClass : infoB Try.prog 116 2 40 = true := by kernel_rfl
set_option maxRecDepth 100000 in
set_option maxHeartbeats 4000000 in
theorem cloneClass_c (h : Sl 2 40 w v n xs) : Calls Try.prog 79 #[v] w fun e w' => ∃ v', e = .returned v' ∧ w'.ownsRow w.heap.size 116 2 v' n xs ∧ Below w.heap.size w w' := by
  rcases id h with ⟨rfl, rfl, rfl⟩ | ⟨a, c, rfl, _⟩
  · exact (cloneClass_nil w).mono fun e w' ⟨he, hw⟩ => ⟨_, he, World.ownsRow_nil _ _ _ _, hw ▸ Below.refl _ _⟩
  · have q : ∀ (u : World) (a : Option Addr) (n c n' c' : Nat), (binOp .eql 45 (.slice a n c) (.slice none n' c')).run Try.prog u = .ok (.bool a.isNone) u := fun u a n c n' c' => Lib.run_eql_slice_nil u _ _ a n c n' c' Try.underlying45
    have HS := Lib.hid h
    clear h
    go_enter Try.func79, Try.ntmps79
    go_wp2_with (at_builtin; refine wpList_clone Try.underlying45 infoClass (by decide) rfl _ _ rfl rfl a c xs rfl HS.out ?_; intro v2 w2 h1 h2; have H1 := Lib.hid h1; have H2 := Lib.hid h2; clear h1 h2)
    go_ret
    exact ⟨_, rfl, H1.out, H2.out⟩
theorem infoType : infoB Try.prog 99 3 48 = true := by kernel_rfl
set_option maxRecDepth 100000 in
set_option maxHeartbeats 4000000 in
theorem cloneType_c (h : Sl 3 48 w v n xs) : Calls Try.prog 80 #[v] w fun e w' => ∃ v', e = .returned v' ∧ w'.ownsRow w.heap.size 99 3 v' n xs ∧ Below w.heap.size w w' := by
  rcases id h with ⟨rfl, rfl, rfl⟩ | ⟨a, c, rfl, _⟩
  · exact (cloneType_nil w).mono fun e w' ⟨he, hw⟩ => ⟨_, he, World.ownsRow_nil _ _ _ _, hw ▸ Below.refl _ _⟩
  · have q : ∀ (u : World) (a : Option Addr) (n c n' c' : Nat), (binOp .eql 46 (.slice a n c) (.slice none n' c')).run Try.prog u = .ok (.bool a.isNone) u := fun u a n c n' c' => Lib.run_eql_slice_nil u _ _ a n c n' c' Try.underlying46
    have HS := Lib.hid h
    clear h
    go_enter Try.func80, Try.ntmps80
    go_wp2_with (at_builtin; refine wpList_clone Try.underlying46 infoType (by decide) rfl _ _ rfl rfl a c xs rfl HS.out ?_; intro v2 w2 h1 h2; have H1 := Lib.hid h1; have H2 := Lib.hid h2; clear h1 h2)
    go_ret
    exact ⟨_, rfl, H1.out, H2.out⟩
theorem infoAttr : infoB Try.prog 128 5 48 = true := by kernel_rfl
set_option maxRecDepth 100000 in
set_option maxHeartbeats 4000000 in
theorem cloneAttr_c (h : Sl 5 48 w v n xs) : Calls Try.prog 61 #[v] w fun e w' => ∃ v', e = .returned v' ∧ w'.ownsRow w.heap.size 128 5 v' n xs ∧ Below w.heap.size w w' := by
  rcases id h with ⟨rfl, rfl, rfl⟩ | ⟨a, c, rfl, _⟩
  · exact (cloneAttr_nil w).mono fun e w' ⟨he, hw⟩ => ⟨_, he, World.ownsRow_nil _ _ _ _, hw ▸ Below.refl _ _⟩
  · have q : ∀ (u : World) (a : Option Addr) (n c n' c' : Nat), (binOp .eql 47 (.slice a n c) (.slice none n' c')).run Try.prog u = .ok (.bool a.isNone) u := fun u a n c n' c' => Lib.run_eql_slice_nil u _ _ a n c n' c' Try.underlying47
    have HS := Lib.hid h
    clear h
    go_enter Try.func61, Try.ntmps61
    go_wp2_with (at_builtin; refine wpList_clone Try.underlying47 infoAttr (by decide) rfl _ _ rfl rfl a c xs rfl HS.out ?_; intro v2 w2 h1 h2; have H1 := Lib.hid h1; have H2 := Lib.hid h2; clear h1 h2)
    go_ret
    exact ⟨_, rfl, H1.out, H2.out⟩
theorem infoRole : infoB Try.prog 131 9 80 = true := by kernel_rfl
set_option maxRecDepth 100000 in
set_option maxHeartbeats 4000000 in
theorem cloneRole_c (h : Sl 9 80 w v n xs) : Calls Try.prog 62 #[v] w fun e w' => ∃ v', e = .returned v' ∧ w'.ownsRow w.heap.size 131 9 v' n xs ∧ Below w.heap.size w w' := by
  rcases id h with ⟨rfl, rfl, rfl⟩ | ⟨a, c, rfl, _⟩
  · exact (cloneRole_nil w).mono fun e w' ⟨he, hw⟩ => ⟨_, he, World.ownsRow_nil _ _ _ _, hw ▸ Below.refl _ _⟩
  · have q : ∀ (u : World) (a : Option Addr) (n c n' c' : Nat), (binOp .eql 48 (.slice a n c) (.slice none n' c')).run Try.prog u = .ok (.bool a.isNone) u := fun u a n c n' c' => Lib.run_eql_slice_nil u _ _ a n c n' c' Try.underlying48
    have HS := Lib.hid h
    clear h
    go_enter Try.func62, Try.ntmps62
    go_wp2_with (at_builtin; refine wpList_clone Try.underlying48 infoRole (by decide) rfl _ _ rfl rfl a c xs rfl HS.out ?_; intro v2 w2 h1 h2; have H1 := Lib.hid h1; have H2 := Lib.hid h2; clear h1 h2)
    go_ret
    exact ⟨_, rfl, H1.out, H2.out⟩
theorem infoUser : infoB Try.prog 138 11 96 = true := by kernel_rfl
set_option maxRecDepth 100000 in
set_option maxHeartbeats 4000000 in
theorem cloneUser_c (h : Sl 11 96 w v n xs) : Calls Try.prog 63 #[v] w fun e w' => ∃ v', e = .returned v' ∧ w'.ownsRow w.heap.size 138 11 v' n xs ∧ Below w.heap.size w w' := by
  rcases id h with ⟨rfl, rfl, rfl⟩ | ⟨a, c, rfl, _⟩
  · exact (cloneUser_nil w).mono fun e w' ⟨he, hw⟩ => ⟨_, he, World.ownsRow_nil _ _ _ _, hw ▸ Below.refl _ _⟩
  · have q : ∀ (u : World) (a : Option Addr) (n c n' c' : Nat), (binOp .eql 49 (.slice a n c) (.slice none n' c')).run Try.prog u = .ok (.bool a.isNone) u := fun u a n c n' c' => Lib.run_eql_slice_nil u _ _ a n c n' c' Try.underlying49
    have HS := Lib.hid h
    clear h
    go_enter Try.func63, Try.ntmps63
    go_wp2_with (at_builtin; refine wpList_clone Try.underlying49 infoUser (by decide) rfl _ _ rfl rfl a c xs rfl HS.out ?_; intro v2 w2 h1 h2; have H1 := Lib.hid h1; have H2 := Lib.hid h2; clear h1 h2)
    go_ret
    exact ⟨_, rfl, H1.out, H2.out⟩
theorem infoBool : infoB Try.prog 141 2 24 = true := by kernel_rfl
set_option maxRecDepth 100000 in
set_option maxHeartbeats 4000000 in
theorem cloneBool_c (h : Sl 2 24 w v n xs) : Calls Try.prog 64 #[v] w fun e w' => ∃ v', e = .returned v' ∧ w'.ownsRow w.heap.size 141 2 v' n xs ∧ Below w.heap.size w w' := by
  rcases id h with ⟨rfl, rfl, rfl⟩ | ⟨a, c, rfl, _⟩
  · exact (cloneBool_nil w).mono fun e w' ⟨he, hw⟩ => ⟨_, he, World.ownsRow_nil _ _ _ _, hw ▸ Below.refl _ _⟩
  · have q : ∀ (u : World) (a : Option Addr) (n c n' c' : Nat), (binOp .eql 50 (.slice a n c) (.slice none n' c')).run Try.prog u = .ok (.bool a.isNone) u := fun u a n c n' c' => Lib.run_eql_slice_nil u _ _ a n c n' c' Try.underlying50
    have HS := Lib.hid h
    clear h
    go_enter Try.func64, Try.ntmps64
    go_wp2_with (at_builtin; refine wpList_clone Try.underlying50 infoBool (by decide) rfl _ _ rfl rfl a c xs rfl HS.out ?_; intro v2 w2 h1 h2; have H1 := Lib.hid h1; have H2 := Lib.hid h2; clear h1 h2)
    go_ret
    exact ⟨_, rfl, H1.out, H2.out⟩
theorem infoExpr : infoB Try.prog 144 10 112 = true := by kernel_rfl
set_option maxRecDepth 100000 in
set_option maxHeartbeats 4000000 in
theorem cloneExpr_c (h : Sl 10 112 w v n xs) : Calls Try.prog 81 #[v] w fun e w' => ∃ v', e = .returned v' ∧ w'.ownsRow w.heap.size 144 10 v' n xs ∧ Below w.heap.size w w' := by
  rcases id h with ⟨rfl, rfl, rfl⟩ | ⟨a, c, rfl, _⟩
  · exact (cloneExpr_nil w).mono fun e w' ⟨he, hw⟩ => ⟨_, he, World.ownsRow_nil _ _ _ _, hw ▸ Below.refl _ _⟩
  · have q : ∀ (u : World) (a : Option Addr) (n c n' c' : Nat), (binOp .eql 52 (.slice a n c) (.slice none n' c')).run Try.prog u = .ok (.bool a.isNone) u := fun u a n c n' c' => Lib.run_eql_slice_nil u _ _ a n c n' c' Try.underlying52
    have HS := Lib.hid h
    clear h
    go_enter Try.func81, Try.ntmps81
    go_wp2_with (at_builtin; refine wpList_clone Try.underlying52 infoExpr (by decide) rfl _ _ rfl rfl a c xs rfl HS.out ?_; intro v2 w2 h1 h2; have H1 := Lib.hid h1; have H2 := Lib.hid h2; clear h1 h2)
    go_ret
    exact ⟨_, rfl, H1.out, H2.out⟩
theorem infoRule : infoB Try.prog 148 13 104 = true := by kernel_rfl
set_option maxRecDepth 100000 in
set_option maxHeartbeats 4000000 in
theorem cloneRule_c (h : Sl 13 104 w v n xs) : Calls Try.prog 67 #[v] w fun e w' => ∃ v', e = .returned v' ∧ w'.ownsRow w.heap.size 148 13 v' n xs ∧ Below w.heap.size w w' := by
  rcases id h with ⟨rfl, rfl, rfl⟩ | ⟨a, c, rfl, _⟩
  · exact (cloneRule_nil w).mono fun e w' ⟨he, hw⟩ => ⟨_, he, World.ownsRow_nil _ _ _ _, hw ▸ Below.refl _ _⟩
  · have q : ∀ (u : World) (a : Option Addr) (n c n' c' : Nat), (binOp .eql 53 (.slice a n c) (.slice none n' c')).run Try.prog u = .ok (.bool a.isNone) u := fun u a n c n' c' => Lib.run_eql_slice_nil u _ _ a n c n' c' Try.underlying53
    have HS := Lib.hid h
    clear h
    go_enter Try.func67, Try.ntmps67
    go_wp2_with (at_builtin; refine wpList_clone Try.underlying53 infoRule (by decide) rfl _ _ rfl rfl a c xs rfl HS.out ?_; intro v2 w2 h1 h2; have H1 := Lib.hid h1; have H2 := Lib.hid h2; clear h1 h2)
    go_ret
    exact ⟨_, rfl, H1.out, H2.out⟩
theorem infoTrans : infoB Try.prog 151 13 112 = true := by kernel_rfl
set_option maxRecDepth 100000 in
set_option maxHeartbeats 4000000 in
theorem cloneTrans_c (h : Sl 13 112 w v n xs) : Calls Try.prog 68 #[v] w fun e w' => ∃ v', e = .returned v' ∧ w'.ownsRow w.heap.size 151 13 v' n xs ∧ Below w.heap.size w w' := by
  rcases id h with ⟨rfl, rfl, rfl⟩ | ⟨a, c, rfl, _⟩
  · exact (cloneTrans_nil w).mono fun e w' ⟨he, hw⟩ => ⟨_, he, World.ownsRow_nil _ _ _ _, hw ▸ Below.refl _ _⟩
  · have q : ∀ (u : World) (a : Option Addr) (n c n' c' : Nat), (binOp .eql 54 (.slice a n c) (.slice none n' c')).run Try.prog u = .ok (.bool a.isNone) u := fun u a n c n' c' => Lib.run_eql_slice_nil u _ _ a n c n' c' Try.underlying54
    have HS := Lib.hid h
    clear h
    go_enter Try.func68, Try.ntmps68
    go_wp2_with (at_builtin; refine wpList_clone Try.underlying54 infoTrans (by decide) rfl _ _ rfl rfl a c xs rfl HS.out ?_; intro v2 w2 h1 h2; have H1 := Lib.hid h1; have H2 := Lib.hid h2; clear h1 h2)
    go_ret
    exact ⟨_, rfl, H1.out, H2.out⟩
theorem infoRoleTrans : infoB Try.prog 154 10 80 = true := by kernel_rfl
set_option maxRecDepth 100000 in
set_option maxHeartbeats 4000000 in
theorem cloneRoleTrans_c (h : Sl 10 80 w v n xs) : Calls Try.prog 69 #[v] w fun e w' => ∃ v', e = .returned v' ∧ w'.ownsRow w.heap.size 154 10 v' n xs ∧ Below w.heap.size w w' := by
  rcases id h with ⟨rfl, rfl, rfl⟩ | ⟨a, c, rfl, _⟩
  · exact (cloneRoleTrans_nil w).mono fun e w' ⟨he, hw⟩ => ⟨_, he, World.ownsRow_nil _ _ _ _, hw ▸ Below.refl _ _⟩
  · have q : ∀ (u : World) (a : Option Addr) (n c n' c' : Nat), (binOp .eql 55 (.slice a n c) (.slice none n' c')).run Try.prog u = .ok (.bool a.isNone) u := fun u a n c n' c' => Lib.run_eql_slice_nil u _ _ a n c n' c' Try.underlying55
    have HS := Lib.hid h
    clear h
    go_enter Try.func69, Try.ntmps69
    go_wp2_with (at_builtin; refine wpList_clone Try.underlying55 infoRoleTrans (by decide) rfl _ _ rfl rfl a c xs rfl HS.out ?_; intro v2 w2 h1 h2; have H1 := Lib.hid h1; have H2 := Lib.hid h2; clear h1 h2)
    go_ret
    exact ⟨_, rfl, H1.out, H2.out⟩
theorem infoRangeTrans : infoB Try.prog 157 13 104 = true := by kernel_rfl
set_option maxRecDepth 100000 in
set_option maxHeartbeats 4000000 in
theorem cloneRangeTrans_c (h : Sl 13 104 w v n xs) : Calls Try.prog 70 #[v] w fun e w' => ∃ v', e = .returned v' ∧ w'.ownsRow w.heap.size 157 13 v' n xs ∧ Below w.heap.size w w' := by
  rcases id h with ⟨rfl, rfl, rfl⟩ | ⟨a, c, rfl, _⟩
  · exact (cloneRangeTrans_nil w).mono fun e w' ⟨he, hw⟩ => ⟨_, he, World.ownsRow_nil _ _ _ _, hw ▸ Below.refl _ _⟩
  · have q : ∀ (u : World) (a : Option Addr) (n c n' c' : Nat), (binOp .eql 56 (.slice a n c) (.slice none n' c')).run Try.prog u = .ok (.bool a.isNone) u := fun u a n c n' c' => Lib.run_eql_slice_nil u _ _ a n c n' c' Try.underlying56
    have HS := Lib.hid h
    clear h
    go_enter Try.func70, Try.ntmps70
    go_wp2_with (at_builtin; refine wpList_clone Try.underlying56 infoRangeTrans (by decide) rfl _ _ rfl rfl a c xs rfl HS.out ?_; intro v2 w2 h1 h2; have H1 := Lib.hid h1; have H2 := Lib.hid h2; clear h1 h2)
    go_ret
    exact ⟨_, rfl, H1.out, H2.out⟩
theorem infoConstraint : infoB Try.prog 160 13 128 = true := by kernel_rfl
set_option maxRecDepth 100000 in
set_option maxHeartbeats 4000000 in
theorem cloneConstraint_c (h : Sl 13 128 w v n xs) : Calls Try.prog 82 #[v] w fun e w' => ∃ v', e = .returned v' ∧ w'.ownsRow w.heap.size 160 13 v' n xs ∧ Below w.heap.size w w' := by
  rcases id h with ⟨rfl, rfl, rfl⟩ | ⟨a, c, rfl, _⟩
  · exact (cloneConstraint_nil w).mono fun e w' ⟨he, hw⟩ => ⟨_, he, World.ownsRow_nil _ _ _ _, hw ▸ Below.refl _ _⟩
  · have q : ∀ (u : World) (a : Option Addr) (n c n' c' : Nat), (binOp .eql 57 (.slice a n c) (.slice none n' c')).run Try.prog u = .ok (.bool a.isNone) u := fun u a n c n' c' => Lib.run_eql_slice_nil u _ _ a n c n' c' Try.underlying57
    have HS := Lib.hid h
    clear h
    go_enter Try.func82, Try.ntmps82
    go_wp2_with (at_builtin; refine wpList_clone Try.underlying57 infoConstraint (by decide) rfl _ _ rfl rfl a c xs rfl HS.out ?_; intro v2 w2 h1 h2; have H1 := Lib.hid h1; have H2 := Lib.hid h2; clear h1 h2)
    go_ret
    exact ⟨_, rfl, H1.out, H2.out⟩
theorem infoInitialSid : infoB Try.prog 168 8 72 = true := by kernel_rfl
set_option maxRecDepth 100000 in
set_option maxHeartbeats 4000000 in
theorem cloneInitialSid_c (h : Sl 8 72 w v n xs) : Calls Try.prog 73 #[v] w fun e w' => ∃ v', e = .returned v' ∧ w'.ownsRow w.heap.size 168 8 v' n xs ∧ Below w.heap.size w w' := by
  rcases id h with ⟨rfl, rfl, rfl⟩ | ⟨a, c, rfl, _⟩
  · exact (cloneInitialSid_nil w).mono fun e w' ⟨he, hw⟩ => ⟨_, he, World.ownsRow_nil _ _ _ _, hw ▸ Below.refl _ _⟩
  · have q : ∀ (u : World) (a : Option Addr) (n c n' c' : Nat), (binOp .eql 58 (.slice a n c) (.slice none n' c')).run Try.prog u = .ok (.bool a.isNone) u := fun u a n c n' c' => Lib.run_eql_slice_nil u _ _ a n c n' c' Try.underlying58
    have HS := Lib.hid h
    clear h
    go_enter Try.func73, Try.ntmps73
    go_wp2_with (at_builtin; refine wpList_clone Try.underlying58 infoInitialSid (by decide) rfl _ _ rfl rfl a c xs rfl HS.out ?_; intro v2 w2 h1 h2; have H1 := Lib.hid h1; have H2 := Lib.hid h2; clear h1 h2)
    go_ret
    exact ⟨_, rfl, H1.out, H2.out⟩
theorem infoFileRule : infoB Try.prog 171 9 80 = true := by kernel_rfl
set_option maxRecDepth 100000 in
set_option maxHeartbeats 4000000 in
theorem cloneFileRule_c (h : Sl 9 80 w v n xs) : Calls Try.prog 74 #[v] w fun e w' => ∃ v', e = .returned v' ∧ w'.ownsRow w.heap.size 171 9 v' n xs ∧ Below w.heap.size w w' := by
  rcases id h with ⟨rfl, rfl, rfl⟩ | ⟨a, c, rfl, _⟩
  · exact (cloneFileRule_nil w).mono fun e w' ⟨he, hw⟩ => ⟨_, he, World.ownsRow_nil _ _ _ _, hw ▸ Below.refl _ _⟩
  · have q : ∀ (u : World) (a : Option Addr) (n c n' c' : Nat), (binOp .eql 59 (.slice a n c) (.slice none n' c')).run Try.prog u = .ok (.bool a.isNone) u := fun u a n c n' c' => Lib.run_eql_slice_nil u _ _ a n c n' c' Try.underlying59
    have HS := Lib.hid h
    clear h
    go_enter Try.func74, Try.ntmps74
    go_wp2_with (at_builtin; refine wpList_clone Try.underlying59 infoFileRule (by decide) rfl _ _ rfl rfl a c xs rfl HS.out ?_; intro v2 w2 h1 h2; have H1 := Lib.hid h1; have H2 := Lib.hid h2; clear h1 h2)
    go_ret
    exact ⟨_, rfl, H1.out, H2.out⟩
theorem infoAssert : infoB Try.prog 174 10 88 = true := by kernel_rfl
set_option maxRecDepth 100000 in
set_option maxHeartbeats 4000000 in
theorem cloneAssert_c (h : Sl 10 88 w v n xs) : Calls Try.prog 75 #[v] w fun e w' => ∃ v', e = .returned v' ∧ w'.ownsRow w.heap.size 174 10 v' n xs ∧ Below w.heap.size w w' := by
  rcases id h with ⟨rfl, rfl, rfl⟩ | ⟨a, c, rfl, _⟩
  · exact (cloneAssert_nil w).mono fun e w' ⟨he, hw⟩ => ⟨_, he, World.ownsRow_nil _ _ _ _, hw ▸ Below.refl _ _⟩
  · have q : ∀ (u : World) (a : Option Addr) (n c n' c' : Nat), (binOp .eql 60 (.slice a n c) (.slice none n' c')).run Try.prog u = .ok (.bool a.isNone) u := fun u a n c n' c' => Lib.run_eql_slice_nil u _ _ a n c n' c' Try.underlying60
    have HS := Lib.hid h
    clear h
    go_enter Try.func75, Try.ntmps75
    go_wp2_with (at_builtin; refine wpList_clone Try.underlying60 infoAssert (by decide) rfl _ _ rfl rfl a c xs rfl HS.out ?_; intro v2 w2 h1 h2; have H1 := Lib.hid h1; have H2 := Lib.hid h2; clear h1 h2)
    go_ret
    exact ⟨_, rfl, H1.out, H2.out⟩
end
end Go.Proofs.Ytbcbhgclgakljaa
