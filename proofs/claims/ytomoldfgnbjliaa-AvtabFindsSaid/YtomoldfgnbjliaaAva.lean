/- The plain part of layer 16: entries, their order, merging. -/
namespace Go.Proofs.Ytomoldfgnbjliaa
structure E where
  s : Int
  t : Int
  c : Int
  d : Int
  a : BitVec 32
  b : BitVec 32
  e : BitVec 32
  wf : (-9223372036854775808 ≤ s ∧ s ≤ 9223372036854775807) ∧ (-9223372036854775808 ≤ t ∧ t ≤ 9223372036854775807) ∧ (-9223372036854775808 ≤ c ∧ c ≤ 9223372036854775807) ∧ (-9223372036854775808 ≤ d ∧ d ≤ 9223372036854775807)
deriving DecidableEq

def ltP (x y : E) : Prop := x.s < y.s ∨ (x.s = y.s ∧ (x.t < y.t ∨ (x.t = y.t ∧ (x.c < y.c ∨ (x.c = y.c ∧ x.d < y.d)))))
def eqP (x y : E) : Prop := x.s = y.s ∧ x.t = y.t ∧ x.c = y.c ∧ x.d = y.d
instance (x y : E) : Decidable (ltP x y) := by unfold ltP; infer_instance
instance (x y : E) : Decidable (eqP x y) := by unfold eqP; infer_instance
theorem ltP_trans {x y z : E} (h : ltP x y) (k : ltP y z) : ltP x z := by unfold ltP at *; omega
theorem ltP_irrefl (x : E) : ¬ ltP x x := by unfold ltP; omega
theorem tri (x y : E) : ltP x y ∨ eqP x y ∨ ltP y x := by unfold ltP eqP; omega
theorem ltP_not_eq {x y : E} (h : ltP x y) : ¬ eqP x y := by unfold ltP eqP at *; omega
theorem ltP_asymm {x y : E} (h : ltP x y) : ¬ ltP y x := by unfold ltP at *; omega
theorem eqP_symm {x y : E} (h : eqP x y) : eqP y x := by unfold eqP at *; omega
theorem eqP_trans {x y z : E} (h : eqP x y) (k : eqP y z) : eqP x z := by unfold eqP at *; omega
theorem ltP_eq {x y z : E} (h : ltP x y) (k : eqP y z) : ltP x z := by unfold ltP eqP at *; omega
theorem eq_ltP {x y z : E} (h : eqP x y) (k : ltP y z) : ltP x z := by unfold ltP eqP at *; omega

/-- the vectors of x with those of y besides -/
def orE (x y : E) : E := { x with a := x.a ||| y.a, b := x.b ||| y.b, e := x.e ||| y.e }
def orEr (x y : E) : E := orE y x
def emp (x : E) : Bool := x.a == 0#32 && x.b == 0#32 && x.e == 0#32
structure V where
  p : BitVec 32
  q : BitVec 32
  r : BitVec 32
def vec (x : E) : V := ⟨x.a, x.b, x.e⟩
def orV (u v : V) : V := ⟨u.p ||| v.p, u.q ||| v.q, u.r ||| v.r⟩
def zV : V := ⟨0#32, 0#32, 0#32⟩
theorem orV_comm (u v : V) : orV u v = orV v u := by unfold orV; rw [BitVec.or_comm u.p, BitVec.or_comm u.q, BitVec.or_comm u.r]
theorem orV_assoc (u v w : V) : orV (orV u v) w = orV u (orV v w) := by unfold orV; simp only [BitVec.or_assoc]
theorem orV_left (u v w : V) : orV u (orV v w) = orV v (orV u w) := by rw [← orV_assoc, orV_comm u v, orV_assoc]
theorem orV_z (u : V) : orV u zV = u := by obtain ⟨a, b, c⟩ := u; simp [orV, zV]
theorem z_orV (u : V) : orV zV u = u := by rw [orV_comm, orV_z]
theorem vec_orE (x y : E) : vec (orE x y) = orV (vec x) (vec y) := rfl
theorem emp_iff {x : E} : emp x = true ↔ vec x = zV := by
  unfold emp vec zV
  simp [and_assoc]
theorem orV_zero {u v : V} (h : orV u v = zV) : u = zV ∧ v = zV := by
  obtain ⟨a, b, c⟩ := u; obtain ⟨a', b', c'⟩ := v
  simp only [orV, zV, V.mk.injEq, BitVec.or_eq_zero_iff] at h ⊢
  exact ⟨⟨h.1.1, h.2.1.1, h.2.2.1⟩, h.1.2, h.2.1.2, h.2.2.2⟩

/-- what entries say at the key of z -/
def con (z : E) : List E → V
  | [] => zV
  | x :: r => if eqP x z then orV (vec x) (con z r) else con z r
theorem con_append (z : E) : ∀ l m : List E, con z (l ++ m) = orV (con z l) (con z m)
  | [], m => (z_orV _).symm
  | x :: r, m => by
    have := con_append z r m
    simp only [List.cons_append, con]
    split
    · rw [this, orV_assoc]
    · exact this
theorem con_perm (z : E) {l m : List E} (h : l.Perm m) : con z l = con z m := by
  induction h with
  | nil => rfl
  | cons x _ ih => simp only [con, ih]
  | swap x y l =>
    simp only [con]
    split <;> split <;> first | rfl | exact orV_left _ _ _
  | trans _ _ ih1 ih2 => exact ih1.trans ih2
theorem con_none (z : E) : ∀ {l : List E}, (∀ x ∈ l, ¬ eqP x z) → con z l = zV
  | [], _ => rfl
  | x :: r, h => by
    simp only [con, if_neg (h x (by simp))]
    exact con_none z fun y hy => h y (by simp [hy])
theorem con_filter_ne (z : E) : ∀ l : List E, con z (l.filter fun x => !emp x) = con z l
  | [] => rfl
  | x :: r => by
    have ih := con_filter_ne z r
    rw [List.filter_cons]
    split
    · simp only [con, ih]
    · rename_i h
      have h' : emp x = true := by simpa using h
      rw [emp_iff] at h'
      simp only [con, ih, h', z_orV, ite_self]

def Strict (l : List E) : Prop := l.Pairwise ltP
def NE (l : List E) : Prop := ∀ x ∈ l, emp x = false
theorem con_head {x z : E} {r : List E} (hs : Strict (x :: r)) (hz : eqP x z) : con z (x :: r) = vec x := by
  have h := (List.pairwise_cons.1 hs).1
  rw [con, if_pos hz, con_none z fun y hy e => absurd (eqP_trans e (eqP_symm hz)) (fun e => ltP_not_eq (h y hy) (eqP_symm e)), orV_z]
theorem con_less {z : E} {l : List E} (h : ∀ x ∈ l, ltP z x) : con z l = zV := con_none z fun x hx e => ltP_not_eq (h x hx) (eqP_symm e)
theorem eq_of {x y : E} (h : eqP x y) (hv : vec x = vec y) : x = y := by
  obtain ⟨h1, h2, h3, h4⟩ := h
  cases x; cases y
  simp only [vec, V.mk.injEq] at hv h1 h2 h3 h4
  obtain ⟨h5, h6, h7⟩ := hv
  subst h1 h2 h3 h4
  subst h5 h6 h7
  rfl
theorem uniq : ∀ {l m : List E}, Strict l → Strict m → NE l → NE m → (∀ z, con z l = con z m) → l = m
  | [], [], _, _, _, _, _ => rfl
  | [], y :: r, _, hs, _, hn, h => by
    have := h y
    rw [con_head hs ⟨rfl, rfl, rfl, rfl⟩] at this
    have := hn y (by simp)
    simp [Bool.eq_false_iff, emp_iff, ← ‹_ = vec y›, con] at this
  | x :: r, [], hs, _, hn, _, h => by
    have := h x
    rw [con_head hs ⟨rfl, rfl, rfl, rfl⟩] at this
    have := hn x (by simp)
    simp [Bool.eq_false_iff, emp_iff, ‹vec x = _›, con] at this
  | x :: r, y :: q, hs, ht, hn, hm, h => by
    have hx := hn x (by simp)
    have hy := hm y (by simp)
    rw [Bool.eq_false_iff, ne_eq, emp_iff] at hx hy
    obtain ⟨s1, s2⟩ := List.pairwise_cons.1 hs
    obtain ⟨t1, t2⟩ := List.pairwise_cons.1 ht
    rcases tri x y with e | e | e
    · have := h x
      rw [con_head hs ⟨rfl, rfl, rfl, rfl⟩, con_less] at this
      · exact absurd this hx
      · intro z hz
        rcases List.mem_cons.1 hz with rfl | hz
        · exact e
        · exact ltP_trans e (t1 z hz)
    · have h0 := h x
      rw [con_head hs ⟨rfl, rfl, rfl, rfl⟩, con_head ht (eqP_symm e)] at h0
      obtain rfl := eq_of e h0
      rw [uniq s2 t2 (fun z hz => hn z (by simp [hz])) (fun z hz => hm z (by simp [hz])) fun z => ?_]
      by_cases hz : eqP x z
      · rw [con_none z fun u hu k => ltP_not_eq (s1 u hu) (eqP_symm (eqP_trans k (eqP_symm hz))), con_none z fun u hu k => ltP_not_eq (t1 u hu) (eqP_symm (eqP_trans k (eqP_symm hz)))]
      · have := h z
        simpa only [con, if_neg hz] using this
    · have := h y
      rw [con_head ht ⟨rfl, rfl, rfl, rfl⟩, con_less] at this
      · exact absurd this.symm hy
      · intro z hz
        rcases List.mem_cons.1 hz with rfl | hz
        · exact e
        · exact ltP_trans e (s1 z hz)

/-! the reference's merging: an entry at its place -/
def ins : List E → E → List E
  | [], x => [x]
  | y :: r, x => if ltP y x then y :: ins r x else if ltP x y then x :: y :: r else orE y x :: r
def insN (l : List E) (x : E) : List E := if emp x then l else ins l x
def M (l : List E) : List E := l.foldl insN []
theorem emp_or {x y : E} (h : emp x = false) : emp (orE x y) = false := by
  rw [Bool.eq_false_iff, ne_eq, emp_iff] at *
  intro e
  rw [vec_orE] at e
  exact h (orV_zero e).1
theorem ins_mem {z x : E} : ∀ {l : List E}, z ∈ ins l x → (∃ y ∈ l, eqP z y) ∨ eqP z x
  | [], h => by simp [ins] at h; subst h; exact .inr ⟨rfl, rfl, rfl, rfl⟩
  | y :: r, h => by
    unfold ins at h
    split at h
    · rcases List.mem_cons.1 h with rfl | h
      · exact .inl ⟨z, by simp, rfl, rfl, rfl, rfl⟩
      · rcases ins_mem h with ⟨u, hu, e⟩ | e
        · exact .inl ⟨u, by simp [hu], e⟩
        · exact .inr e
    · split at h
      · rcases List.mem_cons.1 h with rfl | h
        · exact .inr ⟨rfl, rfl, rfl, rfl⟩
        · exact .inl ⟨z, h, rfl, rfl, rfl, rfl⟩
      · rcases List.mem_cons.1 h with rfl | h
        · exact .inl ⟨y, by simp, rfl, rfl, rfl, rfl⟩
        · exact .inl ⟨z, by simp [h], rfl, rfl, rfl, rfl⟩
theorem ins_strict {x : E} : ∀ {l : List E}, Strict l → Strict (ins l x)
  | [], _ => by simp [ins, Strict]
  | y :: r, h => by
    obtain ⟨h1, h2⟩ := List.pairwise_cons.1 h
    unfold ins
    split
    · rename_i hy
      refine List.pairwise_cons.2 ⟨fun z hz => ?_, ins_strict h2⟩
      rcases ins_mem hz with ⟨u, hu, e⟩ | e
      · exact ltP_eq (h1 u hu) (eqP_symm e)
      · exact ltP_eq hy (eqP_symm e)
    · split
      · rename_i hx
        refine List.pairwise_cons.2 ⟨fun z hz => ?_, h⟩
        rcases List.mem_cons.1 hz with rfl | hz
        · exact hx
        · exact ltP_trans hx (h1 z hz)
      · exact List.pairwise_cons.2 ⟨fun z hz => h1 z hz, h2⟩
theorem ins_ne {x : E} (hx : emp x = false) : ∀ {l : List E}, NE l → NE (ins l x)
  | [], _ => by intro z hz; simp [ins] at hz; subst hz; exact hx
  | y :: r, h => by
    have hr : NE r := fun z hz => h z (by simp [hz])
    unfold ins
    split
    · intro z hz
      rcases List.mem_cons.1 hz with rfl | hz
      · exact h z (by simp)
      · exact ins_ne hx hr z hz
    · split
      · intro z hz
        rcases List.mem_cons.1 hz with rfl | hz
        · exact hx
        · exact h z hz
      · intro z hz
        rcases List.mem_cons.1 hz with rfl | hz
        · exact emp_or (h y (by simp))
        · exact hr z hz
theorem ins_con (z : E) {x : E} : ∀ l : List E, con z (ins l x) = orV (con z l) (if eqP x z then vec x else zV)
  | [] => by
    simp only [ins, con, z_orV]
    split
    · rw [orV_z]
    · rfl
  | y :: r => by
    have ih := ins_con z (x := x) r
    unfold ins
    split
    · simp only [con]
      split
      · rw [ih, orV_assoc]
      · exact ih
    · split
      · simp only [con]
        split <;> split <;> first | (rw [orV_z]; done) | rw [orV_comm]
      · have e : eqP y x := by
          rcases tri y x with h | h | h
          · exact absurd h ‹_›
          · exact h
          · exact absurd h ‹_›
        simp only [con]
        by_cases hz : eqP x z
        · have hy : eqP y z := eqP_trans e hz
          have ho : eqP (orE y x) z := hy
          rw [if_pos ho, if_pos hy, if_pos hz, vec_orE, orV_assoc, orV_assoc, orV_comm (vec x)]
        · have hy : ¬ eqP y z := fun k => hz (eqP_trans (eqP_symm e) k)
          have ho : ¬ eqP (orE y x) z := hy
          rw [if_neg ho, if_neg hy, if_neg hz, orV_z]
theorem insN_con (z : E) (x : E) (l : List E) : con z (insN l x) = orV (con z l) (con z [x]) := by
  unfold insN
  split
  · rename_i h
    rw [emp_iff] at h
    simp only [con, h, orV_z, ite_self]
  · rw [ins_con]
    simp only [con, orV_z]
theorem foldM (z : E) : ∀ (l acc : List E), con z (l.foldl insN acc) = orV (con z acc) (con z l)
  | [], acc => (orV_z _).symm
  | x :: r, acc => by
    rw [List.foldl_cons, foldM z r, insN_con, orV_assoc, ← con_append]
    rfl
theorem fold_strict : ∀ (l acc : List E), Strict acc → NE acc → Strict (l.foldl insN acc) ∧ NE (l.foldl insN acc)
  | [], _, h, k => ⟨h, k⟩
  | x :: r, acc, h, k => by
    rw [List.foldl_cons]
    refine fold_strict r _ ?_ ?_
    · unfold insN; split
      · exact h
      · exact ins_strict h
    · unfold insN; split
      · exact k
      · rename_i hx
        exact ins_ne (by simpa using hx) k
theorem M_con (z : E) (l : List E) : con z (M l) = con z l := by
  unfold M; rw [foldM]; exact z_orV _
theorem M_strict (l : List E) : Strict (M l) := (fold_strict l [] List.Pairwise.nil (by intro x h; cases h)).1
theorem M_ne (l : List E) : NE (M l) := (fold_strict l [] List.Pairwise.nil (by intro x h; cases h)).2
theorem M_uniq {l m : List E} (hs : Strict m) (hn : NE m) (h : ∀ z, con z m = con z l) : m = M l :=
  uniq hs (M_strict l) hn (M_ne l) fun z => (h z).trans (M_con z l).symm
theorem M_of {l m : List E} (h : ∀ z, con z m = con z l) : M m = M l := M_uniq (M_strict m) (M_ne m) fun z => (M_con z m).trans (h z)
theorem M_M (l : List E) : M (M l) = M l := M_of fun z => M_con z l
theorem M_len_ins (x : E) : ∀ l : List E, (ins l x).length ≤ l.length + 1
  | [] => Nat.le_refl _
  | y :: r => by
    have := M_len_ins x r
    unfold ins; split
    · simp; omega
    · split <;> simp
theorem M_len_fold : ∀ (l acc : List E), (l.foldl insN acc).length ≤ acc.length + l.length
  | [], acc => Nat.le_refl _
  | x :: r, acc => by
    rw [List.foldl_cons]
    have h := M_len_fold r (insN acc x)
    have h2 : (insN acc x).length ≤ acc.length + 1 := by unfold insN; split; omega; exact M_len_ins x acc
    simp; omega
theorem M_len (l : List E) : (M l).length ≤ l.length := by have := M_len_fold l []; simp at this; exact this
theorem M_snoc (l : List E) (x : E) : M (l ++ [x]) = insN (M l) x := by unfold M; rw [List.foldl_append]; rfl

/-! the program's merging: ascending entries, joined at the end -/
def join (l : List E) (x : E) : List E :=
  match l.getLast? with
  | none => [x]
  | some y => if eqP y x then l.dropLast ++ [orE y x] else l ++ [x]
theorem join_nil (x : E) : join [] x = [x] := rfl
theorem join_snoc (l : List E) (y x : E) : join (l ++ [y]) x = if eqP y x then l ++ [orE y x] else l ++ [y, x] := by
  unfold join
  simp
theorem snoc_of (l : List E) : l = [] ∨ ∃ m y, l = m ++ [y] := by
  rcases List.eq_nil_or_concat l with h | ⟨m, y, h⟩
  · exact .inl h
  · exact .inr ⟨m, y, by rw [h, List.concat_eq_append]⟩
/-- x comes not before what is there -/
theorem join_spec {l : List E} {x : E} (hs : Strict l) (hn : NE l) (hx : emp x = false) (hl : ∀ y ∈ l, ¬ ltP x y) :
    Strict (join l x) ∧ NE (join l x) ∧ (∀ z, con z (join l x) = con z (l ++ [x])) ∧ (∀ u ∈ join l x, (∃ y ∈ l, eqP u y) ∨ eqP u x) := by
  rcases snoc_of l with rfl | ⟨m, y, rfl⟩
  · rw [join_nil]
    exact ⟨by simp [Strict], by intro u hu; simp at hu; subst hu; exact hx, fun _ => rfl, fun u hu => by simp at hu; subst hu; exact .inr ⟨rfl, rfl, rfl, rfl⟩⟩
  · rw [join_snoc]
    have hp := List.pairwise_append.1 hs
    by_cases e : eqP y x
    · rw [if_pos e]
      refine ⟨List.pairwise_append.2 ⟨hp.1, by simp, fun u hu v hv => ?_⟩, ?_, fun z => ?_, fun u hu => ?_⟩
      · simp at hv; subst hv
        exact hp.2.2 u hu y (by simp)
      · intro u hu
        rcases List.mem_append.1 hu with hu | hu
        · exact hn u (by simp [hu])
        · simp at hu; subst hu; exact emp_or (hn y (by simp))
      · rw [con_append, con_append, con_append, orV_assoc]
        congr 1
        by_cases hz : eqP x z
        · have hy : eqP y z := eqP_trans e hz
          have ho : eqP (orE y x) z := hy
          simp only [con, if_pos ho, if_pos hy, if_pos hz, vec_orE, orV_z]
        · have hy : ¬ eqP y z := fun k => hz (eqP_trans (eqP_symm e) k)
          have ho : ¬ eqP (orE y x) z := hy
          simp only [con, if_neg ho, if_neg hy, if_neg hz, orV_z]
      · rcases List.mem_append.1 hu with hu | hu
        · exact .inl ⟨u, by simp [hu], rfl, rfl, rfl, rfl⟩
        · simp at hu; subst hu; exact .inl ⟨y, by simp, rfl, rfl, rfl, rfl⟩
    · rw [if_neg e]
      have hyx : ltP y x := by
        rcases tri y x with h | h | h
        · exact h
        · exact absurd h e
        · exact absurd h (hl y (by simp))
      refine ⟨List.pairwise_append.2 ⟨hp.1, by simp [hyx], fun u hu v hv => ?_⟩, ?_, fun z => ?_, fun u hu => ?_⟩
      · simp at hv
        have huy := hp.2.2 u hu y (by simp)
        rcases hv with rfl | rfl
        · exact huy
        · exact ltP_trans huy hyx
      · intro u hu
        simp at hu
        rcases hu with hu | rfl | rfl
        · exact hn u (by simp [hu])
        · exact hn u (by simp)
        · exact hx
      · rw [List.append_assoc]; rfl
      · simp at hu
        rcases hu with hu | rfl | rfl
        · exact .inl ⟨u, by simp [hu], rfl, rfl, rfl, rfl⟩
        · exact .inl ⟨u, by simp, rfl, rfl, rfl, rfl⟩
        · exact .inr ⟨rfl, rfl, rfl, rfl⟩
/-- ascending, equals allowed -/
def Asc (l : List E) : Prop := l.Pairwise fun x y => ¬ ltP y x
theorem fold_join : ∀ (r acc : List E), Asc r → NE r → Strict acc → NE acc → (∀ y ∈ acc, ∀ x ∈ r, ¬ ltP x y) →
    Strict (r.foldl join acc) ∧ NE (r.foldl join acc) ∧ ∀ z, con z (r.foldl join acc) = con z (acc ++ r)
  | [], acc, _, _, h, k, _ => ⟨h, k, fun z => by rw [List.append_nil]; rfl⟩
  | x :: r, acc, ha, hn, h, k, hl => by
    obtain ⟨a1, a2⟩ := List.pairwise_cons.1 ha
    obtain ⟨j1, j2, j3, j4⟩ := join_spec h k (hn x (by simp)) (fun y hy => hl y hy x (by simp))
    obtain ⟨f1, f2, f3⟩ := fold_join r (join acc x) a2 (fun z hz => hn z (by simp [hz])) j1 j2 (fun y hy u hu => by
      rcases j4 y hy with ⟨v, hv, e⟩ | e
      · exact fun k => hl v hv u (by simp [hu]) (ltP_eq k e)
      · exact fun k => a1 u hu (ltP_eq k e))
    refine ⟨f1, f2, fun z => ?_⟩
    rw [List.foldl_cons, f3, con_append, j3, ← con_append, List.append_assoc]
    rfl
theorem fold_join_M {l r : List E} (ha : Asc r) (hn : NE r) (h : ∀ z, con z r = con z l) : r.foldl join [] = M l := by
  obtain ⟨f1, f2, f3⟩ := fold_join r [] ha hn List.Pairwise.nil (by intro x h; cases h) (by intro x h; cases h)
  exact M_uniq f1 f2 fun z => (f3 z).trans (h z)
theorem join_len (l : List E) (x : E) : (join l x).length ≤ l.length + 1 := by
  rcases snoc_of l with rfl | ⟨m, y, rfl⟩
  · exact Nat.le_refl _
  · rw [join_snoc]; split <;> simp
theorem fold_join_len : ∀ (r acc : List E), (r.foldl join acc).length ≤ acc.length + r.length
  | [], acc => Nat.le_refl _
  | x :: r, acc => by
    rw [List.foldl_cons]
    have h := fold_join_len r (join acc x)
    have := join_len acc x
    simp; omega
theorem asc_of_strict {l : List E} (h : Strict l) : Asc l := h.imp fun h => ltP_asymm h

/-! what is visible -/
def valB (vs : List Bool) (n : Int) : Bool := decide (n < vs.length) && (0 ≤ n && vs.getD n.toNat false)
def vis (vs : List Bool) (d : Int) : Bool := if 0 < d then vs.getD (d - 1).toNat false else if d < 0 then !(vs.getD (-(d + 1)).toNat false) else true
def zero (x : E) : E := { x with d := 0, wf := ⟨x.wf.1, x.wf.2.1, x.wf.2.2.1, by decide⟩ }
def seenL (vs : List Bool) (l : List E) : List E := (l.filter fun x => vis vs x.d).map zero
def V0 (vs : List Bool) (l : List E) : List E := M (seenL vs l)
theorem seen_ne {vs : List Bool} {l : List E} (h : NE l) : NE (seenL vs l) := by
  intro x hx
  obtain ⟨y, hy, rfl⟩ := List.mem_map.1 hx
  exact h y (List.mem_filter.1 hy).1
theorem seen_asc {vs : List Bool} {l : List E} (h : Strict l) : Asc (seenL vs l) := by
  unfold seenL Asc
  rw [List.pairwise_map]
  refine (h.filter _).imp fun {x y} h => ?_
  unfold ltP zero at *
  simp only
  omega
theorem seen_fold {vs : List Bool} {l : List E} (h : Strict l) (hn : NE l) : (seenL vs l).foldl join [] = V0 vs l := fold_join_M (seen_asc h) (seen_ne hn) fun _ => rfl
theorem V0_d {vs : List Bool} {l : List E} : ∀ x ∈ V0 vs l, x.d = 0 := by
  intro x hx
  have h1 : con x (V0 vs l) ≠ zV := by
    have hne := M_ne _ x hx
    rw [Bool.eq_false_iff, ne_eq, emp_iff] at hne
    intro h
    obtain ⟨p, q, e⟩ := List.append_of_mem hx
    have : con x (V0 vs l) = orV (con x p) (orV (vec x) (con x q)) := by
      show con x (M _) = _
      unfold V0 at e
      rw [e, con_append]
      congr 1
      simp only [con, if_pos (show eqP x x from ⟨rfl, rfl, rfl, rfl⟩)]
    rw [this] at h
    exact hne (orV_zero (orV_zero h).2).1
  unfold V0 at h1
  rw [M_con] at h1
  rcases Classical.em (∀ y ∈ seenL vs l, ¬ eqP y x) with h | h
  · exact absurd (con_none x h) h1
  · obtain ⟨y, h⟩ := Classical.not_forall.1 h
    obtain ⟨hy, h⟩ := Classical.not_imp.1 h
    have e := Classical.not_not.1 h
    obtain ⟨u, _, rfl⟩ := List.mem_map.1 hy
    exact e.2.2.2.symm

/-- a choice that depends on the key alone commutes with merging -/
theorem con_filter (p : E → Bool) (hp : ∀ x y, eqP x y → p x = p y) (z : E) : ∀ l : List E, con z (l.filter p) = if p z then con z l else zV
  | [] => by simp [con]
  | x :: r => by
    have ih := con_filter p hp z r
    rw [List.filter_cons]
    by_cases hx : p x = true
    · rw [if_pos hx]
      simp only [con]
      split
      · rename_i e
        have : p z = true := by rw [← hp x z e]; exact hx
        rw [ih, if_pos this, if_pos this]
      · exact ih
    · rw [if_neg hx, ih]
      by_cases hz : p z = true
      · rw [if_pos hz, if_pos hz]
        simp only [con]
        rw [if_neg]
        intro e
        exact hx (by rw [hp x z e]; exact hz)
      · rw [if_neg hz, if_neg hz]
theorem M_filter (p : E → Bool) (hp : ∀ x y, eqP x y → p x = p y) (l : List E) : M (l.filter p) = (M l).filter p := by
  refine (M_uniq ((M_strict l).filter p) (fun x hx => M_ne l x (List.mem_filter.1 hx).1) fun z => ?_).symm
  rw [con_filter p hp, con_filter p hp, M_con]
theorem seen_filter (p : E → Bool) (hz : ∀ x, p (zero x) = p x) (vs : List Bool) (l : List E) : seenL vs (l.filter p) = (seenL vs l).filter p := by
  unfold seenL
  rw [List.filter_map, List.filter_filter, List.filter_filter]
  congr 1
  apply List.filter_congr
  intro x _
  simp only [Function.comp, hz, Bool.and_comm]
theorem V0_filter (p : E → Bool) (hp : ∀ x y, eqP x y → p x = p y) (hz : ∀ x, p (zero x) = p x) (vs : List Bool) (l : List E) : V0 vs (l.filter p) = (V0 vs l).filter p := by
  unfold V0
  rw [seen_filter p hz, M_filter p hp]
end Go.Proofs.Ytomoldfgnbjliaa
