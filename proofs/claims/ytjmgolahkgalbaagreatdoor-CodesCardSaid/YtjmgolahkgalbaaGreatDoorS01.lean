import Derived.RowKit
import Derived.Lib.ItoaNum
import Derived.Lib.ItoaLen
set_option linter.unusedVariables false
set_option linter.unusedSimpArgs false
set_option maxHeartbeats 20000000
namespace Go.Proofs.YtjmgolahkgalbaaGreatDoor
namespace Li
open Go.RowKit
variable {s : ByteArray}
def bt (s : ByteArray) (i : Nat) : Nat := (s.data.toList.getD i 0).toNat
theorem jbi (s : ByteArray) (i : Nat) : bt s i < 256 := UInt8.toNat_lt _
theorem jbj {i : Nat} (h : i < s.size) : bt s i = s[i].toNat := by
 unfold bt
 have h2 : i < s.data.toList.length := by simpa using h
 rw [List.getD_eq_getElem?_getD,List.getElem?_eq_getElem h2]
 rfl
def nV (s : ByteArray) (i : Nat) : Nat -> Int
 | 0 => 0
 | n + 1 => wrap64 (nV s i n * 256 + bt s (i + n))
def n2 (s : ByteArray) (i : Nat) : Nat := bt s i * 256 + bt s (i + 1)
theorem ju (s : ByteArray) (i : Nat) : n2 s i < 65536 := by
 have := jbi s i
 have := jbi s (i + 1)
 unfold n2;omega
theorem jbE (s : ByteArray) (i : Nat) : nV s i 1 = bt s i := by
 have := jbi s i
 simp only [nV,wrap64,Nat.add_zero];omega
theorem j8 (s : ByteArray) (i : Nat) : nV s i 2 = n2 s i := by
 have := jbi s i
 have := jbi s (i + 1)
 have h := jbE s i
 simp only [nV,wrap64,Nat.add_zero] at h ⊢
 unfold n2
 omega
theorem jcc (s : ByteArray) (i n : Nat) : -9223372036854775808 <= nV s i n /\ nV s i n <= 9223372036854775807 := by
 cases n with
 | zero => simp [nV]
 | succ n => simp only [nV,wrap64];omega
def hF (s : ByteArray) : Nat := n2 s 2
def hN (s : ByteArray) : Nat := n2 s 4
def hL (s : ByteArray) : Nat := n2 s 6
def mlB (s : ByteArray) : Bool := decide ((s.extract 0 2).toList = [109,108])
def hdB (s : ByteArray) : Bool := decide (8 <= s.size) && (mlB s && (decide (0 < hF s) && decide (s.size = 8 + 6 * hF s + 8 * hN s + 8 * hL s)))
theorem jjQ (h1 : 8 <= s.size) (h2 : (s.extract 0 2).toList = [109,108]) (h3 : hF s ≠ 0) (h4 : s.size = 8 + 6 * hF s + 8 * hN s + 8 * hL s) : hdB s = true := by
 unfold hdB mlB
 rw [decide_eq_true h1,decide_eq_true h2,decide_eq_true (show 0 < hF s by omega),decide_eq_true h4];rfl
theorem jco (h : hdB s = true) : 8 <= s.size /\ (s.extract 0 2).toList = [109,108] /\ hF s ≠ 0 /\ s.size = 8 + 6 * hF s + 8 * hN s + 8 * hL s := by
 unfold hdB mlB at h
 simp only [Bool.and_eq_true,decide_eq_true_eq] at h
 exact ⟨h.1,h.2.1,by omega,h.2.2.2⟩
def r0 (s : ByteArray) (k : Nat) : Nat := n2 s (8 + 6 * k)
def r1 (s : ByteArray) (k : Nat) : Nat := bt s (8 + 6 * k + 2)
def r2 (s : ByteArray) (k : Nat) : Nat := bt s (8 + 6 * k + 3)
def r3 (s : ByteArray) (k : Nat) : Nat := n2 s (8 + 6 * k + 4)
def rowA (s : ByteArray) (k : Nat) : Bool := decide (r1 s k <= 4) && (decide (r2 s k <= 1) && decide (r3 s k <= 1024))
def rowZ (s : ByteArray) (k : Nat) : Bool := if k = 0 then (r0 s k == 0 && (r1 s k == 0 && r2 s k == 0)) else decide (r0 s (k - 1) < r0 s k)
def jt (s : ByteArray) (k : Nat) : Bool := rowA s k && (rowZ s k && decide (r0 s k < hL s))
def pN (s : ByteArray) (k : Nat) : Nat := 8 + 6 * hF s + 8 * k
def kn (s : ByteArray) (k : Nat) : Int := nV s (pN s k) 8
def jX (s : ByteArray) (k : Nat) : Bool := decide (-4611686018427387904 <= kn s k) && decide (kn s k <= 4611686018427387903)
def pL (s : ByteArray) (k : Nat) : Nat := 8 + 6 * hF s + 8 * hN s + 8 * k
def l0 (s : ByteArray) (k : Nat) : Nat := bt s (pL s k)
def l1 (s : ByteArray) (k : Nat) : Nat := bt s (pL s k + 1)
def l2 (s : ByteArray) (k : Nat) : Nat := n2 s (pL s k + 2)
def l3 (s : ByteArray) (k : Nat) : Nat := n2 s (pL s k + 4)
def l4 (s : ByteArray) (k : Nat) : Nat := n2 s (pL s k + 6)
def bad (p : Nat -> Bool) : Nat -> Nat -> Option Nat
 | 0,_ => none
 | n + 1,k => if p k then bad p n (k + 1) else some k
def res (s : ByteArray) : Option (Nat × Nat) :=
 if 600000 < s.size then some (1,0) else if hdB s = false then some (10,0) else
 match bad (jt s) (hF s) 0 with
 | some k => some (10,8 + 6 * k)
 | none => match bad (jX s) (hN s) 0 with
   | some k => some (10,pN s k)
   | none => none
def ji {α : Type} (f : Nat -> List α) : Nat -> List α
 | 0 => []
 | k + 1 => ji f k ++ f k
theorem jaC {α : Type} {f : Nat -> List α} {w : Nat} (hf : ∀ i,(f i).length = w) : ∀ n,(ji f n).length = n * w
 | 0 => by simp [ji]
 | n + 1 => by rw [ji,List.length_append,jaC hf n,hf n,Nat.succ_mul]
theorem Jq {α : Type} {f : Nat -> List α} {w : Nat} (hf : ∀ i,(f i).length = w) {i o : Nat} (ho : o < w) : ∀ n,i < n -> (ji f n)[i * w + o]? = (f i)[o]?
 | 0,h => by omega
 | n + 1,h => by
   rw [ji]
   by_cases hi : i < n
   ·have : (i + 1) * w <= n * w := Nat.mul_le_mul_right _ hi
    rw [Nat.succ_mul] at this
    rw [List.getElem?_append_left (by rw [jaC hf];omega)]
    exact Jq hf ho n hi
   ·have he : i = n := by omega
    subst he
    rw [List.getElem?_append_right (by rw [jaC hf];omega),jaC hf,Nat.add_sub_cancel_left]
theorem jea {α : Type} {f g : Nat -> List α} : ∀ n,(∀ i,i < n -> f i = g i) -> ji f n = ji g n
 | 0,_ => rfl
 | n + 1,h => by rw [ji,ji,jea n (fun i hi => h i (by omega)),h n (by omega)]
def lnT (nm : List UInt8) (ns : List Int) : List UInt8 := nm ++ (ns.flatMap fun n => 32 :: Lib.itoa n) ++ [10]
def fT (s : ByteArray) (k : Nat) : List UInt8 := lnT [102] [(r0 s k : Int),(r1 s k : Int),(r2 s k : Int),(r3 s k : Int)]
def kT (s : ByteArray) (k : Nat) : List UInt8 := lnT [107] [kn s k]
def nms : List (List UInt8) := [[63],[108,100,105],[109,111,118],[108,100,115],[108,100,107],[115,116,115],[99,108,114],[97,100,100],[115,117,98],[109,117,108],[100,105,118],[109,111,100],[101,113],[108,116],[108,101],[110,101,103],[110,111,116],[106,109,112],[106,122],[110,101,119],[99,108,111],[115,101,116],[102,108,100],[97,114,114],[103,101,116],[112,117,116],[108,101,110],[112,114,110],[114,100,105],[99,97,108,108],[99,97,108,99],[116,99,97,108],[116,99,108,99],[114,101,116]]
def nmO (k : Nat) : List UInt8 := nms.getD k [63]
def lT (s : ByteArray) (k : Nat) : List UInt8 := lnT (nmO (l0 s k)) [(l1 s k : Int),(l2 s k : Int),(l3 s k : Int),(l4 s k : Int)]
def txt (s : ByteArray) : List UInt8 := ji (fT s) (hF s) ++ ji (kT s) (hN s) ++ ji (lT s) (hL s)
theorem jmF : nms.length = 34 := by decide
theorem jmG (k : Nat) : (nmO k).length <= 4 := by
 unfold nmO
 have h : ∀ x ∈ nms,x.length <= 4 := by decide
 rw [List.getD_eq_getElem?_getD]
 cases hq : nms[k]? with
 | none => simp
 | some x => exact h x (List.mem_of_getElem? hq)
theorem jmJ (n : Int) (h0 : -9223372036854775808 <= n) (h1 : n <= 9223372036854775807) : (Lib.itoa n).length <= 21 := Lib.itoa_length_le n h0 h1
theorem jmI (n : Nat) : Lib.itoa (n : Int) = Lib.decDigits n := by unfold Lib.itoa;rw [if_neg (by omega)];simp
end Li
end Go.Proofs.YtjmgolahkgalbaaGreatDoor
