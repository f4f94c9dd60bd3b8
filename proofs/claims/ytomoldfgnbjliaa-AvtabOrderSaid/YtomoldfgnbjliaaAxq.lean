/- AvtabOrder: the plain part. -/
import Derived.Test.YtomoldfgnbjliaaAxp
import Derived.BigRegion
namespace Go.Proofs.Ytomoldfgnbjliaa
open Go.RowKit Go.Sort Go.Shelf
/-- the two halves of an entry -/
def hf1 (x : E) : E := { x with a := x.a &&& 0x55555555#32, e := 0#32 }
def hf2 (x : E) : E := { x with a := x.a &&& 0xAAAAAAAA#32, b := 0#32 }
def back : List E → List E
  | [] => []
  | x :: l => back l ++ [hf1 x, hf2 x]
theorem hf_vec (x : E) : orV (vec (hf1 x)) (vec (hf2 x)) = vec x := by
  obtain ⟨s, t, c, d, a, b, e, wf⟩ := x
  simp only [hf1, hf2, vec, orV, V.mk.injEq]
  refine ⟨?_, by simp, by simp⟩
  rw [← BitVec.and_or_distrib_left]
  have : (0x55555555#32 ||| 0xAAAAAAAA#32) = BitVec.allOnes 32 := by decide
  rw [this, BitVec.and_allOnes]
theorem con_back (z : E) : ∀ l, con z (back l) = con z l
  | [] => rfl
  | x :: l => by
    have h1 : eqP (hf1 x) z = eqP x z := rfl
    have h2 : eqP (hf2 x) z = eqP x z := rfl
    rw [back, con_append, con_back z l]
    show orV (con z l) (if eqP (hf1 x) z then orV (vec (hf1 x)) (if eqP (hf2 x) z then orV (vec (hf2 x)) zV else zV) else (if eqP (hf2 x) z then orV (vec (hf2 x)) zV else zV)) = (if eqP x z then orV (vec x) (con z l) else con z l)
    by_cases h : eqP x z
    · have k1 : eqP (hf1 x) z := h
      have k2 : eqP (hf2 x) z := h
      rw [if_pos k1, if_pos k2, if_pos h, orV_z, hf_vec, orV_comm]
    · have k1 : ¬ eqP (hf1 x) z := h
      have k2 : ¬ eqP (hf2 x) z := h
      rw [if_neg k1, if_neg k2, if_neg h, orV_z]
theorem M_back (l : List E) : M (back l) = M l := by
  refine M_uniq (M_strict _) (M_ne _) (fun z => ?_)
  rw [M_con, con_back]
theorem back_len : ∀ l, (back l).length = 2 * l.length
  | [] => rfl
  | x :: l => by rw [back, List.length_append, back_len l]; simp; omega
theorem back_drop {l : List E} {i : Nat} (h : i < l.length) : back (l.drop i) = back (l.drop (i + 1)) ++ [hf1 l[i], hf2 l[i]] := by
  rw [List.drop_eq_getElem_cons h, back]
theorem vI_and5 (x : BitVec 32) : bits .and .u32 (vI x) 1431655765 = vI (x &&& 0x55555555#32) := vI_and x 0x55555555#32
theorem vI_andNot (x y : BitVec 32) : bits .andNot .u32 (vI x) (vI y) = vI (x &&& ~~~ y) := by
  show IntKind.u32.wrap ((BitVec.ofInt 32 (vI x) &&& ~~~ BitVec.ofInt 32 (vI y)).toNat : Int) = _
  have e : ∀ z : BitVec 32, BitVec.ofInt 32 (vI z) = z := fun z => by
    apply BitVec.eq_of_toNat_eq
    unfold vI
    rw [BitVec.toNat_ofInt]
    have := z.isLt
    omega
  rw [e, e, wrap_nat32 _ (BitVec.isLt _)]
  rfl
theorem vI_andn5 (x : BitVec 32) : bits .andNot .u32 (vI x) 1431655765 = vI (x &&& 0xAAAAAAAA#32) := vI_andNot x 0x55555555#32
theorem wpList_append_E2 {w : World} {ops : Array Oper} {rest : List Oper} {o : Oper} {a : Act} {Q : Exit → Act → World → Prop} (hgd : o.guard = none) (s x : Operand)
    (ho : o.op = .call { callee := .builtin .append, args := #[s, x], argTypes := #[22, 22] }) (B : Nat) (v : Value) (L : List E) (N : Nat) (hN : L.length = N) (hs : a.eval s = v) (hown : OwnE w B v L)
    (g : Nat) (y z : E) (hx : a.eval x = .slice (some ⟨g, 0, none⟩) 2 2) (hy : Blk w g 39 #[.int .i64 y.s, .int .i64 y.t, .int .i64 y.c, .int .i64 y.d, .int .u32 (vI y.a), .int .u32 (vI y.b), .int .u32 (vI y.e), .int .i64 z.s, .int .i64 z.t, .int .i64 z.c, .int .i64 z.d, .int .u32 (vI z.a), .int .u32 (vI z.b), .int .u32 (vI z.e)]) (hl : N ≤ 1000000) (hb : B ≤ w.heap.size)
    (h : ∀ g' cap w', OwnE w' B (.slice (some ⟨g', 0, none⟩) (N + 2) cap) (L ++ [y, z]) → w.grownBy w' v.ownBlock → (v.ownBlock = some g' ∨ g' = w.heap.size) → wpList Try.prog ops Q rest (a.put o.dst (.slice (some ⟨g', 0, none⟩) (N + 2) cap)) w') :
    wpList Try.prog ops Q (o :: rest) a w := by
  subst hN
  obtain ⟨i0, hinf, hz0, hz1, hz2⟩ := info_parts infoE
  refine wpList_append_lies w hgd s x 22 ho B 39 i0 _ 7 48 Try.underlying22 hinf hz0 hz1 hz2 rfl (by decide) v L.length (L.flatMap cellsE) hs hown ⟨g, 0, none⟩ 2 2 (cellsE y ++ cellsE z) hx rfl
    (World.news_of_block hy) (fun u hu => by rcases List.mem_append.1 hu with h | h; exact cellsE_one y u h; exact cellsE_one z u h) (by decide) (by unfold maxLen; omega) (by omega) hb _ rfl ?_
  intro g' cap w' h1 h2 h3 _
  refine h g' cap w' ?_ h2 h3
  unfold OwnE
  rw [List.length_append, List.flatMap_append]
  simpa using h1
end Go.Proofs.Ytomoldfgnbjliaa
