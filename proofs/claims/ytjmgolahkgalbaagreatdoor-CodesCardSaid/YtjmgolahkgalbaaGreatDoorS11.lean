import Derived.Test.YtjmgolahkgalbaaGreatDoorS10
set_option linter.unusedVariables false
set_option linter.unusedSimpArgs false
set_option maxHeartbeats 20000000
namespace Go.Proofs.YtjmgolahkgalbaaGreatDoor
open Go.RowKit Li
variable {s : ByteArray}
theorem jay {p : Nat -> Bool} : ∀ (n k : Nat),bad p n k = none -> ∀ j,k <= j -> j < k + n -> p j = true
 | 0,k,_,j,h1,h2 => by omega
 | n + 1,k,h,j,h1,h2 => by
   unfold bad at h
   by_cases hp : p k = true
   ·rw [if_pos hp] at h
    by_cases hj : j = k
    ·rw [hj];exact hp
    ·exact jay n (k + 1) h j (by omega) (by omega)
   ·rw [if_neg hp] at h;cases h
theorem jbw (h : res s = none) : s.size <= 600000 /\ hdB s = true /\ bad (jt s) (hF s) 0 = none /\ bad (jX s) (hN s) 0 = none := by
 unfold res at h
 split at h
 ·cases h
 ·split at h
  ·cases h
  ·rename_i h1 h2
   refine ⟨by omega,by simpa using h2,?_⟩
   split at h
   ·cases h
   ·rename_i h3
    split at h
    ·cases h
    ·rename_i h4;exact ⟨h3,h4⟩
theorem jeh {er at' : Nat} (h : res s = some (er,at')) : er = 1 \/ er = 10 := by
 unfold res at h
 split at h
 ·injection h with h;injection h with h _;exact .inl h.symm
 ·split at h
  ·injection h with h;injection h with h _;exact .inr h.symm
  ·split at h
   ·injection h with h;injection h with h _;exact .inr h.symm
   ·split at h
    ·injection h with h;injection h with h _;exact .inr h.symm
    ·cases h
theorem kn_bd (h : res s = none) {j : Nat} (hj : j < hN s) : -4611686018427387904 <= kn s j /\ kn s j <= 4611686018427387903 := by
 have := jay _ _ (jbw h).2.2.2 j (by omega) (by omega)
 unfold jX at this
 simpa using this
theorem jg0 {α : Type} {f : Nat -> List α} {c : Nat} : ∀ n,(∀ i,i < n -> (f i).length <= c) -> (ji f n).length <= n * c
 | 0,_ => by simp [ji]
 | n + 1,h => by
   have h1 := jg0 n (fun i hi => h i (by omega))
   have h2 := h n (by omega)
   rw [ji,List.length_append,Nat.succ_mul]
   omega
theorem j9 {w : World} {o : Obj} {b : Nat} (h : b = w.heap.size) : (w.alloc o).heap[b]? = some o := by
 subst h;exact jg w o
end Go.Proofs.YtjmgolahkgalbaaGreatDoor
