import Derived.Test.YtdmedmmdioabgaaGreatDoorZbA
import Derived.Test.YtdmedmmdioabgaaGreatDoorZbB
import Derived.Test.YtdmedmmdioabgaaGreatDoorZbC
import Derived.Test.YtdmedmmdioabgaaGreatDoorZbD
import Derived.Test.YtdmedmmdioabgaaGreatDoorZbE
import Derived.Test.YtdmedmmdioabgaaGreatDoorZbF
import Derived.Test.YtdmedmmdioabgaaGreatDoorZbG
import Derived.Test.YtdmedmmdioabgaaGreatDoorZbH
import Derived.Test.YtdmedmmdioabgaaGreatDoorZbI
import Derived.Test.YtdmedmmdioabgaaGreatDoorZbJ
import Derived.Test.YtdmedmmdioabgaaGreatDoorZbK
import Derived.Test.YtdmedmmdioabgaaGreatDoorZbL
import Derived.Test.YtdmedmmdioabgaaGreatDoorZbM
import Derived.Test.YtdmedmmdioabgaaGreatDoorZbN
import Derived.Test.YtdmedmmdioabgaaGreatDoorZbO
import Derived.Test.YtdmedmmdioabgaaGreatDoorZbP
import Derived.Test.YtdmedmmdioabgaaGreatDoorZbQ
import Derived.Test.YtdmedmmdioabgaaGreatDoorZbR
import Derived.Test.YtdmedmmdioabgaaGreatDoorZbS
import Derived.Test.YtdmedmmdioabgaaGreatDoorZbT
import Derived.Test.YtdmedmmdioabgaaGreatDoorZbU
import Derived.Test.YtdmedmmdioabgaaGreatDoorZbV
import Derived.Test.YtdmedmmdioabgaaGreatDoorZbW
import Derived.Test.YtdmedmmdioabgaaGreatDoorZbX
import Derived.Test.YtdmedmmdioabgaaGreatDoorZbY
import Derived.Test.YtdmedmmdioabgaaGreatDoorZbZ
import Derived.Test.YtdmedmmdioabgaaGreatDoorZdA
import Derived.Test.YtdmedmmdioabgaaGreatDoorZdB
import Derived.Test.YtdmedmmdioabgaaGreatDoorZdC
import Derived.Test.YtdmedmmdioabgaaGreatDoorZdD
import Derived.Test.YtdmedmmdioabgaaGreatDoorZdE
import Derived.Test.YtdmedmmdioabgaaGreatDoorZdF
import Derived.Test.YtdmedmmdioabgaaGreatDoorZdG
import Derived.Test.YtdmedmmdioabgaaGreatDoorZaP
namespace Go.Proofs.YtdmedmmdioabgaaGreatDoor
namespace Sm
open Ev
theorem ev_c : ∀ f o sa sb, f < 3 → o < 11 → chk f o sa sb = true
  | 0, 0, false, false, _, _ => c0_0_00
  | 0, 0, false, true, _, _ => c0_0_01
  | 0, 0, true, false, _, _ => c0_0_10
  | 0, 0, true, true, _, _ => c0_0_11
  | 0, 1, false, false, _, _ => c0_1_00
  | 0, 1, false, true, _, _ => c0_1_01
  | 0, 1, true, false, _, _ => c0_1_10
  | 0, 1, true, true, _, _ => c0_1_11
  | 0, 2, false, false, _, _ => c0_2_00
  | 0, 2, false, true, _, _ => c0_2_01
  | 0, 2, true, false, _, _ => c0_2_10
  | 0, 2, true, true, _, _ => c0_2_11
  | 0, 3, false, false, _, _ => c0_3_00
  | 0, 3, false, true, _, _ => c0_3_01
  | 0, 3, true, false, _, _ => c0_3_10
  | 0, 3, true, true, _, _ => c0_3_11
  | 0, 4, false, false, _, _ => c0_4_00
  | 0, 4, false, true, _, _ => c0_4_01
  | 0, 4, true, false, _, _ => c0_4_10
  | 0, 4, true, true, _, _ => c0_4_11
  | 0, 5, false, false, _, _ => c0_5_00
  | 0, 5, false, true, _, _ => c0_5_01
  | 0, 5, true, false, _, _ => c0_5_10
  | 0, 5, true, true, _, _ => c0_5_11
  | 0, 6, false, false, _, _ => c0_6_00
  | 0, 6, false, true, _, _ => c0_6_01
  | 0, 6, true, false, _, _ => c0_6_10
  | 0, 6, true, true, _, _ => c0_6_11
  | 0, 7, false, false, _, _ => c0_7_00
  | 0, 7, false, true, _, _ => c0_7_01
  | 0, 7, true, false, _, _ => c0_7_10
  | 0, 7, true, true, _, _ => c0_7_11
  | 0, 8, false, false, _, _ => c0_8_00
  | 0, 8, false, true, _, _ => c0_8_01
  | 0, 8, true, false, _, _ => c0_8_10
  | 0, 8, true, true, _, _ => c0_8_11
  | 0, 9, false, false, _, _ => c0_9_00
  | 0, 9, false, true, _, _ => c0_9_01
  | 0, 9, true, false, _, _ => c0_9_10
  | 0, 9, true, true, _, _ => c0_9_11
  | 0, 10, false, false, _, _ => c0_10_00
  | 0, 10, false, true, _, _ => c0_10_01
  | 0, 10, true, false, _, _ => c0_10_10
  | 0, 10, true, true, _, _ => c0_10_11
  | 0, o + 11, _, _, _, h => by omega
  | 1, 0, false, false, _, _ => c1_0_00
  | 1, 0, false, true, _, _ => c1_0_01
  | 1, 0, true, false, _, _ => c1_0_10
  | 1, 0, true, true, _, _ => c1_0_11
  | 1, 1, false, false, _, _ => c1_1_00
  | 1, 1, false, true, _, _ => c1_1_01
  | 1, 1, true, false, _, _ => c1_1_10
  | 1, 1, true, true, _, _ => c1_1_11
  | 1, 2, false, false, _, _ => c1_2_00
  | 1, 2, false, true, _, _ => c1_2_01
  | 1, 2, true, false, _, _ => c1_2_10
  | 1, 2, true, true, _, _ => c1_2_11
  | 1, 3, false, false, _, _ => c1_3_00
  | 1, 3, false, true, _, _ => c1_3_01
  | 1, 3, true, false, _, _ => c1_3_10
  | 1, 3, true, true, _, _ => c1_3_11
  | 1, 4, false, false, _, _ => c1_4_00
  | 1, 4, false, true, _, _ => c1_4_01
  | 1, 4, true, false, _, _ => c1_4_10
  | 1, 4, true, true, _, _ => c1_4_11
  | 1, 5, false, false, _, _ => c1_5_00
  | 1, 5, false, true, _, _ => c1_5_01
  | 1, 5, true, false, _, _ => c1_5_10
  | 1, 5, true, true, _, _ => c1_5_11
  | 1, 6, false, false, _, _ => c1_6_00
  | 1, 6, false, true, _, _ => c1_6_01
  | 1, 6, true, false, _, _ => c1_6_10
  | 1, 6, true, true, _, _ => c1_6_11
  | 1, 7, false, false, _, _ => c1_7_00
  | 1, 7, false, true, _, _ => c1_7_01
  | 1, 7, true, false, _, _ => c1_7_10
  | 1, 7, true, true, _, _ => c1_7_11
  | 1, 8, false, false, _, _ => c1_8_00
  | 1, 8, false, true, _, _ => c1_8_01
  | 1, 8, true, false, _, _ => c1_8_10
  | 1, 8, true, true, _, _ => c1_8_11
  | 1, 9, false, false, _, _ => c1_9_00
  | 1, 9, false, true, _, _ => c1_9_01
  | 1, 9, true, false, _, _ => c1_9_10
  | 1, 9, true, true, _, _ => c1_9_11
  | 1, 10, false, false, _, _ => c1_10_00
  | 1, 10, false, true, _, _ => c1_10_01
  | 1, 10, true, false, _, _ => c1_10_10
  | 1, 10, true, true, _, _ => c1_10_11
  | 1, o + 11, _, _, _, h => by omega
  | 2, 0, false, false, _, _ => c2_0_00
  | 2, 0, false, true, _, _ => c2_0_01
  | 2, 0, true, false, _, _ => c2_0_10
  | 2, 0, true, true, _, _ => c2_0_11
  | 2, 1, false, false, _, _ => c2_1_00
  | 2, 1, false, true, _, _ => c2_1_01
  | 2, 1, true, false, _, _ => c2_1_10
  | 2, 1, true, true, _, _ => c2_1_11
  | 2, 2, false, false, _, _ => c2_2_00
  | 2, 2, false, true, _, _ => c2_2_01
  | 2, 2, true, false, _, _ => c2_2_10
  | 2, 2, true, true, _, _ => c2_2_11
  | 2, 3, false, false, _, _ => c2_3_00
  | 2, 3, false, true, _, _ => c2_3_01
  | 2, 3, true, false, _, _ => c2_3_10
  | 2, 3, true, true, _, _ => c2_3_11
  | 2, 4, false, false, _, _ => c2_4_00
  | 2, 4, false, true, _, _ => c2_4_01
  | 2, 4, true, false, _, _ => c2_4_10
  | 2, 4, true, true, _, _ => c2_4_11
  | 2, 5, false, false, _, _ => c2_5_00
  | 2, 5, false, true, _, _ => c2_5_01
  | 2, 5, true, false, _, _ => c2_5_10
  | 2, 5, true, true, _, _ => c2_5_11
  | 2, 6, false, false, _, _ => c2_6_00
  | 2, 6, false, true, _, _ => c2_6_01
  | 2, 6, true, false, _, _ => c2_6_10
  | 2, 6, true, true, _, _ => c2_6_11
  | 2, 7, false, false, _, _ => c2_7_00
  | 2, 7, false, true, _, _ => c2_7_01
  | 2, 7, true, false, _, _ => c2_7_10
  | 2, 7, true, true, _, _ => c2_7_11
  | 2, 8, false, false, _, _ => c2_8_00
  | 2, 8, false, true, _, _ => c2_8_01
  | 2, 8, true, false, _, _ => c2_8_10
  | 2, 8, true, true, _, _ => c2_8_11
  | 2, 9, false, false, _, _ => c2_9_00
  | 2, 9, false, true, _, _ => c2_9_01
  | 2, 9, true, false, _, _ => c2_9_10
  | 2, 9, true, true, _, _ => c2_9_11
  | 2, 10, false, false, _, _ => c2_10_00
  | 2, 10, false, true, _, _ => c2_10_01
  | 2, 10, true, false, _, _ => c2_10_10
  | 2, 10, true, true, _, _ => c2_10_11
  | 2, o + 11, _, _, _, h => by omega
  | f + 3, _, _, _, h, _ => by omega
theorem ev_r : ∀ o sa sb, o < 11 → chkR o sa sb = true
  | 0, false, false, _ => cr0_00
  | 0, false, true, _ => cr0_01
  | 0, true, false, _ => cr0_10
  | 0, true, true, _ => cr0_11
  | 1, false, false, _ => cr1_00
  | 1, false, true, _ => cr1_01
  | 1, true, false, _ => cr1_10
  | 1, true, true, _ => cr1_11
  | 2, false, false, _ => cr2_00
  | 2, false, true, _ => cr2_01
  | 2, true, false, _ => cr2_10
  | 2, true, true, _ => cr2_11
  | 3, false, false, _ => cr3_00
  | 3, false, true, _ => cr3_01
  | 3, true, false, _ => cr3_10
  | 3, true, true, _ => cr3_11
  | 4, false, false, _ => cr4_00
  | 4, false, true, _ => cr4_01
  | 4, true, false, _ => cr4_10
  | 4, true, true, _ => cr4_11
  | 5, false, false, _ => cr5_00
  | 5, false, true, _ => cr5_01
  | 5, true, false, _ => cr5_10
  | 5, true, true, _ => cr5_11
  | 6, false, false, _ => cr6_00
  | 6, false, true, _ => cr6_01
  | 6, true, false, _ => cr6_10
  | 6, true, true, _ => cr6_11
  | 7, false, false, _ => cr7_00
  | 7, false, true, _ => cr7_01
  | 7, true, false, _ => cr7_10
  | 7, true, true, _ => cr7_11
  | 8, false, false, _ => cr8_00
  | 8, false, true, _ => cr8_01
  | 8, true, false, _ => cr8_10
  | 8, true, true, _ => cr8_11
  | 9, false, false, _ => cr9_00
  | 9, false, true, _ => cr9_01
  | 9, true, false, _ => cr9_10
  | 9, true, true, _ => cr9_11
  | 10, false, false, _ => cr10_00
  | 10, false, true, _ => cr10_01
  | 10, true, false, _ => cr10_10
  | 10, true, true, _ => cr10_11
  | o + 11, _, _, h => by omega
theorem ev_q : ∀ o, o < 11 → isS (rdC o) (compC (rdT o)) = true
  | 0, _ => cq0
  | 1, _ => cq1
  | 2, _ => cq2
  | 3, _ => cq3
  | 4, _ => cq4
  | 5, _ => cq5
  | 6, _ => cq6
  | 7, _ => cq7
  | 8, _ => cq8
  | 9, _ => cq9
  | 10, _ => cq10
  | o + 11, h => by omega
theorem ev_u : ∀ o, o < 11 → isS (prC o) (compC (prT o)) = true
  | 0, _ => cu0
  | 1, _ => cu1
  | 2, _ => cu2
  | 3, _ => cu3
  | 4, _ => cu4
  | 5, _ => cu5
  | 6, _ => cu6
  | 7, _ => cu7
  | 8, _ => cu8
  | 9, _ => cu9
  | 10, _ => cu10
  | o + 11, h => by omega
theorem ev_p : ∀ o, o < 11 → chkP o = true
  | 0, _ => cp0
  | 1, _ => cp1
  | 2, _ => cp2
  | 3, _ => cp3
  | 4, _ => cp4
  | 5, _ => cp5
  | 6, _ => cp6
  | 7, _ => cp7
  | 8, _ => cp8
  | 9, _ => cp9
  | 10, _ => cp10
  | o + 11, h => by omega
theorem ev_z : ∀ o, o < 11 → 5 ≤ o → chk0 o = true
  | 0, _, h => by omega
  | 1, _, h => by omega
  | 2, _, h => by omega
  | 3, _, h => by omega
  | 4, _, h => by omega
  | 5, _, _ => cz5
  | 6, _, _ => cz6
  | 7, _, _ => cz7
  | 8, _, _ => cz8
  | 9, _, _ => cz9
  | 10, _, _ => cz10
  | o + 11, h, _ => by omega
theorem ev_d : ∀ f o pt, f < 3 → (o = 3 ∨ o = 4) → pt < 5 → chkD f o pt = true := by
  intro f o pt hf ho hp
  have hf : f = 0 ∨ f = 1 ∨ f = 2 := by omega
  have hp : pt = 0 ∨ pt = 1 ∨ pt = 2 ∨ pt = 3 ∨ pt = 4 := by omega
  rcases hf with rfl | rfl | rfl <;> rcases ho with rfl | rfl <;> rcases hp with rfl | rfl | rfl | rfl | rfl
  · exact cd0_3_0
  · exact cd0_3_1
  · exact cd0_3_2
  · exact cd0_3_3
  · exact cd0_3_4
  · exact cd0_4_0
  · exact cd0_4_1
  · exact cd0_4_2
  · exact cd0_4_3
  · exact cd0_4_4
  · exact cd1_3_0
  · exact cd1_3_1
  · exact cd1_3_2
  · exact cd1_3_3
  · exact cd1_3_4
  · exact cd1_4_0
  · exact cd1_4_1
  · exact cd1_4_2
  · exact cd1_4_3
  · exact cd1_4_4
  · exact cd2_3_0
  · exact cd2_3_1
  · exact cd2_3_2
  · exact cd2_3_3
  · exact cd2_3_4
  · exact cd2_4_0
  · exact cd2_4_1
  · exact cd2_4_2
  · exact cd2_4_3
  · exact cd2_4_4
theorem evd : Evd := ⟨ev_c, (fun sa => by cases sa; exact cn0; exact cn1), ev_r, (fun sa => by cases sa; exact crn0; exact crn1), ev_q, cqn, ev_u, ev_p, ev_z⟩
end Sm
end Go.Proofs.YtdmedmmdioabgaaGreatDoor
