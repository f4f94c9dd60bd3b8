/- Part of the proof: Cxm. No conditions. -/
import Derived.Test.YtbhoofihnmmmfabGreatYai
namespace Go.Proofs.YtbhoofihnmmmfabGreat
open Go.RowKit
set_option maxRecDepth 100000 in
theorem rsort_c (a : Int) (w : World) : Calls Tryz.prog 109 #[.int .i64 a] w fun e w' => e = .returned (.int .i64 (sortA a)) ∧ Below w.heap.size w w' := by
 have hr := tmod5 a
 have hw : IntKind.i64.wrap (a.tmod 5) = a.tmod 5 := IntWalk.i64_in _ (by omega)
 unfold sortA
 by_cases h : 3 < a.tmod 5
 · rw [if_pos h]
   have h2 : ¬ a.tmod 5 ≤ 3 := by omega
   go_enter Tryz.func109, Tryz.ntmps109
   go_wp2
   go_ret
   exact ⟨rfl, Below.refl _ _⟩
 · rw [if_neg h]
   have h2 : a.tmod 5 ≤ 3 := by omega
   go_enter Tryz.func109, Tryz.ntmps109
   go_wp2
   go_ret
   exact ⟨rfl, Below.refl _ _⟩
def kidsN (op : Int) : Int := if op = 2 then 1 else if op = 3 ∨ op = 4 then 2 else if op = 8 ∨ op = 9 then 0 else -1
set_option maxRecDepth 100000 in
theorem kids_c (op : Int) (w : World) : Calls Tryz.prog 107 #[.int .i64 op] w fun e w' => e = .returned (.int .i64 (kidsN op)) ∧ Below w.heap.size w w' := by
 unfold kidsN
 by_cases h2 : op = 2
 · have p2 : (op == 2) = true := by rw [h2]; rfl
   have p3 : (op == 3) = false := by rw [h2]; rfl
   have p4 : (op == 4) = false := by rw [h2]; rfl
   have p8 : (op == 8) = false := by rw [h2]; rfl
   have p9 : (op == 9) = false := by rw [h2]; rfl
   rw [if_pos h2]
   clear h2
   go_enter Tryz.func107, Tryz.ntmps107
   go_wp2
   go_ret
   exact ⟨rfl, Below.refl _ _⟩
 · by_cases h3 : op = 3
   · have p2 : (op == 2) = false := by rw [h3]; rfl
     have p3 : (op == 3) = true := by rw [h3]; rfl
     have p4 : (op == 4) = false := by rw [h3]; rfl
     have p8 : (op == 8) = false := by rw [h3]; rfl
     have p9 : (op == 9) = false := by rw [h3]; rfl
     rw [if_neg (by omega), if_pos (by omega)]
     clear h2 h3
     go_enter Tryz.func107, Tryz.ntmps107
     go_wp2
     go_ret
     exact ⟨rfl, Below.refl _ _⟩
   · by_cases h4 : op = 4
     · have p2 : (op == 2) = false := by rw [h4]; rfl
       have p3 : (op == 3) = false := by rw [h4]; rfl
       have p4 : (op == 4) = true := by rw [h4]; rfl
       have p8 : (op == 8) = false := by rw [h4]; rfl
       have p9 : (op == 9) = false := by rw [h4]; rfl
       rw [if_neg (by omega), if_pos (by omega)]
       clear h2 h3 h4
       go_enter Tryz.func107, Tryz.ntmps107
       go_wp2
       go_ret
       exact ⟨rfl, Below.refl _ _⟩
     · by_cases h8 : op = 8
       · have p2 : (op == 2) = false := by rw [h8]; rfl
         have p3 : (op == 3) = false := by rw [h8]; rfl
         have p4 : (op == 4) = false := by rw [h8]; rfl
         have p8 : (op == 8) = true := by rw [h8]; rfl
         have p9 : (op == 9) = false := by rw [h8]; rfl
         rw [if_neg (by omega), if_neg (by omega), if_pos (by omega)]
         clear h2 h3 h4 h8
         go_enter Tryz.func107, Tryz.ntmps107
         go_wp2
         go_ret
         exact ⟨rfl, Below.refl _ _⟩
       · by_cases h9 : op = 9
         · have p2 : (op == 2) = false := by rw [h9]; rfl
           have p3 : (op == 3) = false := by rw [h9]; rfl
           have p4 : (op == 4) = false := by rw [h9]; rfl
           have p8 : (op == 8) = false := by rw [h9]; rfl
           have p9 : (op == 9) = true := by rw [h9]; rfl
           rw [if_neg (by omega), if_neg (by omega), if_pos (by omega)]
           clear h2 h3 h4 h8 h9
           go_enter Tryz.func107, Tryz.ntmps107
           go_wp2
           go_ret
           exact ⟨rfl, Below.refl _ _⟩
         · have p2 : (op == 2) = false := by simp; omega
           have p3 : (op == 3) = false := by simp; omega
           have p4 : (op == 4) = false := by simp; omega
           have p8 : (op == 8) = false := by simp; omega
           have p9 : (op == 9) = false := by simp; omega
           rw [if_neg (by omega), if_neg (by omega), if_neg (by omega)]
           clear h2 h3 h4 h8 h9
           go_enter Tryz.func107, Tryz.ntmps107
           go_wp2
           go_ret
           exact ⟨rfl, Below.refl _ _⟩
def inB (a n : Int) : Bool := decide (0 ≤ a ∧ a < n)
set_option maxRecDepth 100000 in
theorem within_c (a n : Int) (w : World) : Calls Tryz.prog 108 #[.int .i64 a, .int .i64 n] w fun e w' => e = .returned (.bool (inB a n)) ∧ Below w.heap.size w w' := by
 unfold inB
 by_cases h1 : 0 ≤ a
 · by_cases h2 : a < n
   · rw [decide_eq_true ⟨h1, h2⟩]
     go_enter Tryz.func108, Tryz.ntmps108
     go_wp2
     go_ret
     exact ⟨rfl, Below.refl _ _⟩
   · rw [decide_eq_false (fun h => h2 h.2)]
     go_enter Tryz.func108, Tryz.ntmps108
     go_wp2
     go_ret
     exact ⟨rfl, Below.refl _ _⟩
 · rw [decide_eq_false (fun h => h1 h.1)]
   go_enter Tryz.func108, Tryz.ntmps108
   go_wp2
   go_ret
   exact ⟨rfl, Below.refl _ _⟩
end Go.Proofs.YtbhoofihnmmmfabGreat
