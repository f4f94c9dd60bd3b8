/- Tables of names: what their map holds (plain mathematics), and a table in memory. -/
import Derived.Test.YtffgjamnijhlpaaMm
import Derived.Maps.OwnSet
import Derived.Maps.OwnOps
import Derived.Sort.KeysCollected
import Derived.OwnWalk
namespace Go.Proofs.Ytffgjamnijhlpaa
open Go.RowKit Go.Maps Go.Sort
def keyS (s : ByteArray) : Lit := .string s.data.toList
def intD (n : Int) : DataW Unit := .lit (.int .i64 n)
/-- the map that the entries make, one after the other -/
def mapD (E : List (ByteArray × Int)) : DataW Unit := E.foldl (fun m p => m.put (keyS p.1) (intD p.2)) (.map [])
theorem mapD_snoc (E : List (ByteArray × Int)) (p : ByteArray × Int) : mapD (E ++ [p]) = (mapD E).put (keyS p.1) (intD p.2) := by simp [mapD, List.foldl_append]
theorem keyS_inj {a b : ByteArray} (h : keyS a = keyS b) : a = b := by
  unfold keyS at h
  injection h with h
  cases a; cases b
  simp only [ByteArray.mk.injEq] at *
  exact Array.toList_inj.1 h
theorem keyS_key (s : ByteArray) : WideAt.IsKeyLit (keyS s) := by unfold keyS; first | trivial | exact ⟨_, rfl⟩ | simp [WideAt.IsKeyLit]
/-- the number of a name, and whether there is one -/
def lookE (E : List (ByteArray × Int)) (s : ByteArray) : Int := E.foldl (fun a p => if p.1 = s then p.2 else a) 0
def hasE (E : List (ByteArray × Int)) (s : ByteArray) : Bool := E.any (fun p => decide (p.1 = s))
theorem lookE_snoc (E : List (ByteArray × Int)) (p : ByteArray × Int) (s : ByteArray) : lookE (E ++ [p]) s = if p.1 = s then p.2 else lookE E s := by simp [lookE, List.foldl_append]
theorem hasE_snoc (E : List (ByteArray × Int)) (p : ByteArray × Int) (s : ByteArray) : hasE (E ++ [p]) s = (hasE E s || decide (p.1 = s)) := by simp [hasE]
/-- induction from the end -/
theorem ind_snoc {α : Type} {P : List α → Prop} (h0 : P []) (h1 : ∀ l a, P l → P (l ++ [a])) (l : List α) : P l := by
  have : ∀ n (l : List α), l.length = n → P l := by
    intro n
    induction n with
    | zero => intro l hl; rw [List.eq_nil_of_length_eq_zero hl]; exact h0
    | succ n ih =>
      intro l hl
      have hne : l ≠ [] := by rintro rfl; simp at hl
      rw [← List.dropLast_concat_getLast hne]
      exact h1 _ _ (ih _ (by rw [List.length_dropLast]; omega))
  exact this _ l rfl
theorem mapD_tidy (E : List (ByteArray × Int)) : Tidy (mapD E) := by
  refine ind_snoc (P := fun E => Tidy (mapD E)) tidy_empty (fun l a h => ?_) E
  rw [mapD_snoc]
  exact h.put (keyS_key _) _
theorem mapD_has (E : List (ByteArray × Int)) (s : ByteArray) : Maps.has (mapD E) (keyS s) = hasE E s := by
  refine ind_snoc (P := fun E => Maps.has (mapD E) (keyS s) = hasE E s) rfl (fun l a h => ?_) E
  rw [mapD_snoc, hasE_snoc]
  by_cases he : a.1 = s
  · rw [he, has_put_same (mapD_tidy l).isMap (keyS_key _), decide_eq_true rfl, Bool.or_true]
  · rw [has_put_other (fun hk => he (keyS_inj hk).symm), h, decide_eq_false he, Bool.or_false]
theorem mapD_at (E : List (ByteArray × Int)) (s : ByteArray) : (mapD E).atKey (keyS s) (.lit (.int .i64 0)) = .lit (.int .i64 (lookE E s)) := by
  refine ind_snoc (P := fun E => (mapD E).atKey (keyS s) (.lit (.int .i64 0)) = .lit (.int .i64 (lookE E s))) rfl (fun l a h => ?_) E
  rw [mapD_snoc, lookE_snoc]
  by_cases he : a.1 = s
  · rw [he, atKey_put_same (mapD_tidy l).isMap (keyS_key _), if_pos rfl]
    rfl
  · rw [atKey_put_other (fun hk => he (keyS_inj hk).symm), h, if_neg he]
def Keys (E : List (ByteArray × Int)) : List ByteArray := E.map (·.1)
theorem hasE_keys (E : List (ByteArray × Int)) (s : ByteArray) : hasE E s = true ↔ s ∈ Keys E := by
  unfold hasE Keys
  simp only [List.any_eq_true, decide_eq_true_eq, List.mem_map]
theorem mapD_size {E : List (ByteArray × Int)} (h : (Keys E).Nodup) : Maps.size (mapD E) = E.length := by
  refine ind_snoc (P := fun E => (Keys E).Nodup → Maps.size (mapD E) = E.length) (fun _ => rfl) (fun l a ih hn => ?_) E h
  unfold Keys at hn
  rw [List.map_append, List.nodup_append] at hn
  rw [mapD_snoc, size_put (mapD_tidy l), mapD_has]
  have hf : hasE l a.1 = false := by
    cases hh : hasE l a.1
    · rfl
    · have := (hasE_keys l a.1).1 hh
      exact absurd rfl (hn.2.2 a.1 this a.1 (by simp))
  rw [hf, ih hn.1]
  simp
theorem insert_perm {H : Type} (x : Lit × DataW H) : ∀ l : List (Lit × DataW H), (DataW.insert x l).Perm (x :: l)
  | [] => by unfold DataW.insert; exact List.Perm.refl _
  | y :: r => by
    unfold DataW.insert
    split
    · exact List.Perm.refl _
    · exact (List.Perm.cons y (insert_perm x r)).trans (List.Perm.swap x y r)
theorem mapD_keys {E : List (ByteArray × Int)} (h : (Keys E).Nodup) : (strKeys (mapD E)).Perm ((Keys E).map (fun s => s.data.toList)) := by
  refine ind_snoc (P := fun E => (Keys E).Nodup → (strKeys (mapD E)).Perm ((Keys E).map (fun s => s.data.toList))) (fun _ => List.Perm.refl _) (fun l a ih hn => ?_) E h
  have hn' := hn
  unfold Keys at hn
  rw [List.map_append, List.nodup_append] at hn
  have hf : hasE l a.1 = false := by
    cases hh : hasE l a.1
    · rfl
    · have := (hasE_keys l a.1).1 hh
      exact absurd rfl (hn.2.2 a.1 this a.1 (by simp))
  have hd := del_of_not_has (D := mapD l) (k := keyS a.1) (by rw [mapD_has]; exact hf)
  have ihl := ih hn.1
  obtain ⟨es, he, _⟩ := mapD_tidy l
  rw [mapD_snoc]
  rw [he] at hd ihl ⊢
  have hfil : (es.filter fun p => !p.1.sameKey (keyS a.1)) = es := by
    simpa [DataW.del] using hd
  show (strKeys (DataW.map (DataW.insert (keyS a.1, intD a.2) (es.filter fun p => !p.1.sameKey (keyS a.1))))).Perm _
  rw [hfil]
  have hp := (insert_perm (keyS a.1, intD a.2) es).map (fun p : Lit × DataW Unit => strOf p.1)
  refine hp.trans ?_
  rw [List.map_cons]
  have e2 : (Keys (l ++ [a])).map (fun s => s.data.toList) = (Keys l).map (fun s => s.data.toList) ++ [a.1.data.toList] := by simp [Keys]
  rw [e2]
  refine List.Perm.trans ?_ (List.perm_append_singleton _ _).symm
  exact List.Perm.cons _ ihl
end Go.Proofs.Ytffgjamnijhlpaa
