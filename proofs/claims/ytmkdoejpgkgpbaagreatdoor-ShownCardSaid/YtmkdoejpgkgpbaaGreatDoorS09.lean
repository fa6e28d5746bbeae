import Derived.Test.YtmkdoejpgkgpbaaGreatDoorS06
import Derived.Test.YtmkdoejpgkgpbaaGreatDoorS07
import Derived.Test.YtmkdoejpgkgpbaaGreatDoorS08
set_option linter.unusedVariables false
set_option linter.unusedSimpArgs false
set_option maxHeartbeats 20000000
namespace Go.Proofs.YtmkdoejpgkgpbaaGreatDoor
namespace Sl
inductive X where
 | Expr | Let | Rest | Comparison | Compared | Sum | Terms | Product | Factors | Sign | Call | Operand | Index | Atom | Bracket
 | Param (m : Nat) | Name (m : Nat) | Argument (m : Nat) | Item (m : Nat)
inductive Sy where
 | tm (k : Nat)
 | nt (x : X)
def ruleX (x : X) (h : Nat) : Option (List Sy) :=
 match x with
 | .Expr => if h = 3 then some [.tm 3,.nt .Let] else if h = 6 then some [.tm 6,.nt .Expr,.tm 7,.nt .Expr,.tm 8,.nt .Expr] else if h = 9 then some [.tm 9,.tm 2,.nt (.Param 3),.tm 22,.nt .Expr] else some [.nt .Comparison,.nt .Rest]
 | .Let => if h = 4 then some [.tm 4,.tm 2,.tm 2,.nt (.Param 3),.tm 27,.nt .Expr,.tm 5,.nt .Expr] else if h = 23 then some [.tm 23,.tm 2,.tm 25,.tm 2,.nt (.Name 4),.tm 24,.tm 27,.nt .Expr,.tm 5,.nt .Expr] else some [.tm 2,.tm 27,.nt .Expr,.tm 5,.nt .Expr]
 | .Rest => if h = 26 then some [.tm 26,.nt .Expr] else some []
 | .Comparison => some [.nt .Sum,.nt .Compared]
 | .Compared => if isCmp h then some [.tm h,.nt .Sum] else some []
 | .Sum => some [.nt .Product,.nt .Terms]
 | .Terms => if isSum h then some [.tm h,.nt .Product,.nt .Terms] else some []
 | .Product => some [.nt .Sign,.nt .Factors]
 | .Factors => if isPro h then some [.tm h,.nt .Sign,.nt .Factors] else some []
 | .Sign => if h = 31 then some [.tm 31,.nt .Sign] else if h = 10 then some [.tm 10,.nt .Sign] else some [.nt .Call]
 | .Call => if h = 14 then some [.tm 14,.nt .Operand] else if h = 15 then some [.tm 15,.nt .Operand] else if h = 16 then some [.tm 16,.nt .Operand,.nt .Operand] else if h = 17 then some [.tm 17,.nt .Operand,.nt .Operand,.nt .Operand] else some [.nt .Operand,.nt (.Argument 4)]
 | .Operand => some [.nt .Atom,.nt .Index]
 | .Index => if h = 18 then some [.tm 18,.nt .Expr,.tm 24,.nt .Index] else some []
 | .Atom => if h = 23 then some [.tm 23,.nt .Bracket] else if isLeaf h then some [.tm h] else none
 | .Bracket => if h = 24 then some [.tm 24] else some [.nt .Expr,.nt (.Item 5),.tm 24]
 | .Param m => if h = 2 /\ 0 < m then some [.tm 2,.nt (.Param (m - 1))] else some []
 | .Name m => if h = 25 /\ 0 < m then some [.tm 25,.tm 2,.nt (.Name (m - 1))] else some []
 | .Argument m => if isOpd h && decide (0 < m) then some [.nt .Operand,.nt (.Argument (m - 1))] else some []
 | .Item m => if h = 25 /\ 0 < m then some [.tm 25,.nt .Expr,.nt (.Item (m - 1))] else some []
inductive MR (N : Nat) : Nat -> List Sy -> List Tok -> Nat -> Option (Nat × Nat) -> Prop
 | nil (l : List Tok) (o : Nat) : MR N 0 [] l o none
 | nt {n : Nat} {x : X} {xs S : List Sy} {t : Tok} {l : List Tok} {o : Nat} {r : Option (Nat × Nat)} : ruleX x t.k = some xs -> MR N n (xs ++ S) (t :: l) o r -> MR N (n + 1) (.nt x :: S) (t :: l) o r
 | ntBad {x : X} {S : List Sy} {t : Tok} {l : List Tok} {o : Nat} : ruleX x t.k = none -> MR N 1 (.nt x :: S) (t :: l) o (some (4,t.p))
 | tm {n k : Nat} {S : List Sy} {t : Tok} {l : List Tok} {o : Nat} {r : Option (Nat × Nat)} : t.k = k -> k ≠ 23 -> k ≠ 18 -> k ≠ 24 -> MR N n S l o r -> MR N (n + 1) (.tm k :: S) (t :: l) o r
 | tmBad {k : Nat} {S : List Sy} {t : Tok} {l : List Tok} {o : Nat} : t.k ≠ k -> MR N 1 (.tm k :: S) (t :: l) o (some (4,t.p))
 | op {n k : Nat} {S : List Sy} {t : Tok} {l : List Tok} {o : Nat} {r : Option (Nat × Nat)} : t.k = k -> k = 23 \/ k = 18 -> o < N -> MR N n S l (o + 1) r -> MR N (n + 1) (.tm k :: S) (t :: l) o r
 | opNest {k : Nat} {S : List Sy} {t : Tok} {l : List Tok} {o : Nat} : t.k = k -> k = 23 \/ k = 18 -> N <= o -> MR N 1 (.tm k :: S) (t :: l) o (some (5,t.p))
 | cl {n : Nat} {S : List Sy} {t : Tok} {l : List Tok} {o : Nat} {r : Option (Nat × Nat)} : t.k = 24 -> MR N n S l (o - 1) r -> MR N (n + 1) (.tm 24 :: S) (t :: l) o r
def symJ : J -> List Sy
 | .expr => [.nt .Expr] | .lett => [.nt .Let] | .cmp => [.nt .Comparison] | .sum => [.nt .Sum] | .prod => [.nt .Product] | .sign => [.nt .Sign] | .call => [.nt .Call] | .operand => [.nt .Operand] | .atom => [.nt .Atom] | .bracket => [.nt .Bracket]
 | .rest _ => [.nt .Rest] | .cmpd _ => [.nt .Compared] | .terms _ => [.nt .Terms] | .facs _ => [.nt .Factors] | .index _ => [.nt .Index]
 | .args m _ => [.nt (.Argument m)] | .items m _ => [.nt (.Item m),.tm 24]
 | .params m _ => [.nt (.Param m)] | .names m _ => [.nt (.Name m)]
def headX : J -> X
 | .expr => .Expr | .lett => .Let | .cmp => .Comparison | .sum => .Sum | .prod => .Product | .sign => .Sign | .call => .Call | .operand => .Operand | .atom => .Atom | .bracket => .Bracket
 | .rest _ => .Rest | .cmpd _ => .Compared | .terms _ => .Terms | .facs _ => .Factors | .index _ => .Index
 | .args m _ => .Argument m | .items m _ => .Item m
 | .params m _ => .Param m | .names m _ => .Name m
def tailX : J -> List Sy
 | .items _ _ => [.tm 24]
 | _ => []
theorem symJ_eq (j : J) : symJ j = .nt (headX j) :: tailX j := by cases j <;> rfl
def symS : List St -> List Sy
 | [] => []
 | .tm k :: ss => .tm k :: symS ss
 | .op k :: ss => .tm k :: symS ss
 | .cl :: ss => .tm 24 :: symS ss
 | .jb j :: ss => symJ j ++ symS ss
def kindS' : List St -> Prop
 | [] => True
 | .tm k :: ss => k ≠ 23 /\ k ≠ 18 /\ k ≠ 24 /\ kindS' ss
 | .op k :: ss => (k = 23 \/ k = 18) /\ kindS' ss
 | _ :: ss => kindS' ss
theorem expand_kinds {j : J} {h : Nat} {ss : List St} {fin : List V -> Fin'} (he : expand j h = some (ss,fin)) : kindS' ss := by
 unfold expand at he
 split at he <;> (try split at he) <;> (try split at he) <;> (try split at he) <;> (try split at he) <;> first
  | (simp at he;done)
  | (injection he with he;injection he with h1 _;subst h1;simp [kindS'];done)
  | (rename_i hh;injection he with he;injection he with h1 _;subst h1;simp only [isCmp,isSum,isPro,isLeaf,Bool.or_eq_true,beq_iff_eq] at hh;simp [kindS'];omega)
theorem expand_none {j : J} {h : Nat} (he : expand j h = none) : ruleX (headX j) h = none := by
 unfold expand at he
 split at he <;> (try split at he) <;> (try split at he) <;> (try split at he) <;> (try split at he) <;> first
  | (simp at he;done)
  | (simp only [headX,ruleX];rw [if_neg (by assumption),if_neg (by assumption)])
theorem rule_go {j j' : J} {h : Nat} {ss : List St} {fin : List V -> Fin'} {vs : List V} (he : expand j h = some (ss,fin)) (hf : fin vs = .go j') : ∃ xs,ruleX (headX j) h = some xs /\ xs ++ tailX j = symS ss ++ symJ j' := by
 unfold expand at he
 split at he <;> (try split at he) <;> (try split at he) <;> (try split at he) <;> (try split at he) <;> first
  | (simp at he;done)
  | (injection he with he;injection he with h1 h2;subst h1 h2;simp only at hf;split at hf <;> first
   | (simp [nop] at hf;done)
   | (injection hf with hf;subst hf;simp only [headX,ruleX,tailX,symS,symJ];first
    | exact ⟨_,rfl,by simp⟩
    | (rw [if_pos (by assumption)];exact ⟨_,rfl,by simp⟩)
    | (rw [if_neg (by assumption)];exact ⟨_,rfl,by simp⟩)
    | (rw [if_neg (by assumption),if_neg (by assumption),if_neg (by assumption)];exact ⟨_,rfl,by simp⟩)
    | (rw [if_neg (by assumption),if_neg (by assumption),if_neg (by assumption),if_neg (by assumption)];exact ⟨_,rfl,by simp⟩))
   | (simp at hf;done))
  | (injection he with he;injection he with h1 h2;subst h1 h2;simp at hf;done)
theorem rule_out {j : J} {h : Nat} {ss : List St} {fin : List V -> Fin'} {vs : List V} {v : V} {u : List Tk} (he : expand j h = some (ss,fin)) (hs : SpS ss u vs) (hf : fin vs = .out v) : ∃ xs,ruleX (headX j) h = some xs /\ xs ++ tailX j = symS ss := by
 unfold expand at he
 split at he <;> (try split at he) <;> (try split at he) <;> (try split at he) <;> (try split at he) <;> first
  | (simp at he;done)
  | (injection he with he;injection he with h1 h2;subst h1 h2;obtain ⟨v',rfl,c,rfl,h3⟩ := one_jb hs;simp at hf;done)
  | (injection he with he;injection he with h1 h2;subst h1 h2;obtain ⟨t,v',u',h1,rfl,rfl,c,rfl,h3⟩ := tm_jb hs;simp at hf;done)
  | (injection he with he;injection he with h1 h2;subst h1 h2;obtain ⟨t,h1,rfl,rfl⟩ := one_tm hs;simp at hf;done)
  | (injection he with he;injection he with h1 h2;subst h1 h2;obtain ⟨t,vs',u',h1,rfl,rfl,hs⟩ := hs;obtain ⟨t2,h2,rfl,rfl⟩ := one_tm hs;simp at hf;done)
  | (injection he with he;injection he with h1 h2;subst h1 h2;obtain ⟨t,vs',u',h1,rfl,rfl,v1,vs1,u1,u2,rfl,rfl,⟨b,rfl,hb⟩,t2,vs2,u3,h2,rfl,rfl,rfl,rfl⟩ := hs;simp at hf;done)
  | (injection he with he;injection he with h1 h2;subst h1 h2;simp only [headX,ruleX,tailX,symS,symJ];first
   | exact ⟨_,rfl,by simp⟩
   | (rw [if_pos (by assumption)];exact ⟨_,rfl,by simp⟩)
   | (rw [if_neg (by assumption)];exact ⟨_,rfl,by simp⟩)
   | (rw [if_neg (by assumption),if_pos (by assumption)];exact ⟨_,rfl,by simp⟩)
   | (rw [if_neg (by assumption),if_neg (by assumption)];exact ⟨_,rfl,by simp⟩)
   | (rw [if_neg (by assumption),if_neg (by assumption),if_pos (by assumption)];exact ⟨_,rfl,by simp⟩)
   | (rw [if_neg (by assumption),if_neg (by assumption),if_neg (by assumption),if_pos (by assumption)];exact ⟨_,rfl,by simp⟩))
theorem rule_any {j : J} {h : Nat} {ss : List St} {fin : List V -> Fin'} (he : expand j h = some (ss,fin)) : ∃ xs q,ruleX (headX j) h = some xs /\ xs ++ tailX j = symS ss ++ q := by
 unfold expand at he
 split at he <;> (try split at he) <;> (try split at he) <;> (try split at he) <;> (try split at he) <;> first
  | (simp at he;done)
  | (injection he with he;injection he with h1 h2;subst h1 h2;simp only [headX,ruleX,tailX,symS,symJ];first
   | exact ⟨_,_,rfl,by simp;rfl⟩
   | (rw [if_pos (by assumption)];exact ⟨_,_,rfl,by simp;rfl⟩)
   | (rw [if_neg (by assumption)];exact ⟨_,_,rfl,by simp;rfl⟩)
   | (rw [if_neg (by assumption),if_pos (by assumption)];exact ⟨_,_,rfl,by simp;rfl⟩)
   | (rw [if_neg (by assumption),if_neg (by assumption)];exact ⟨_,_,rfl,by simp;rfl⟩)
   | (rw [if_neg (by assumption),if_neg (by assumption),if_pos (by assumption)];exact ⟨_,_,rfl,by simp;rfl⟩)
   | (rw [if_neg (by assumption),if_neg (by assumption),if_neg (by assumption)];exact ⟨_,_,rfl,by simp;rfl⟩)
   | (rw [if_neg (by assumption),if_neg (by assumption),if_neg (by assumption),if_pos (by assumption)];exact ⟨_,_,rfl,by simp;rfl⟩)
   | (rw [if_neg (by assumption),if_neg (by assumption),if_neg (by assumption),if_neg (by assumption)];exact ⟨_,_,rfl,by simp;rfl⟩))
end Sl
end Go.Proofs.YtmkdoejpgkgpbaaGreatDoor
namespace Go.Proofs.YtmkdoejpgkgpbaaGreatDoor
open Go.RowKit Sl
def nameK (k : Nat) : ByteArray := kName k (txt k)
def xStr : X -> ByteArray
 | .Expr => ⟨#[69,120,112,114]⟩
 | .Let => ⟨#[76,101,116]⟩
 | .Rest => ⟨#[82,101,115,116]⟩
 | .Comparison => ⟨#[67,111,109,112,97,114,105,115,111,110]⟩
 | .Compared => ⟨#[67,111,109,112,97,114,101,100]⟩
 | .Sum => ⟨#[83,117,109]⟩
 | .Terms => ⟨#[84,101,114,109,115]⟩
 | .Product => ⟨#[80,114,111,100,117,99,116]⟩
 | .Factors => ⟨#[70,97,99,116,111,114,115]⟩
 | .Sign => ⟨#[83,105,103,110]⟩
 | .Call => ⟨#[67,97,108,108]⟩
 | .Operand => ⟨#[79,112,101,114,97,110,100]⟩
 | .Index => ⟨#[73,110,100,101,120]⟩
 | .Atom => ⟨#[65,116,111,109]⟩
 | .Bracket => ⟨#[66,114,97,99,107,101,116]⟩
 | .Param 0 => ⟨#[80,97,114,97,109,48]⟩
 | .Param 1 => ⟨#[80,97,114,97,109,49]⟩
 | .Param 2 => ⟨#[80,97,114,97,109,50]⟩
 | .Param 3 => ⟨#[80,97,114,97,109,51]⟩
 | .Name 0 => ⟨#[78,97,109,101,48]⟩
 | .Name 1 => ⟨#[78,97,109,101,49]⟩
 | .Name 2 => ⟨#[78,97,109,101,50]⟩
 | .Name 3 => ⟨#[78,97,109,101,51]⟩
 | .Name 4 => ⟨#[78,97,109,101,52]⟩
 | .Argument 0 => ⟨#[65,114,103,117,109,101,110,116,48]⟩
 | .Argument 1 => ⟨#[65,114,103,117,109,101,110,116,49]⟩
 | .Argument 2 => ⟨#[65,114,103,117,109,101,110,116,50]⟩
 | .Argument 3 => ⟨#[65,114,103,117,109,101,110,116,51]⟩
 | .Argument 4 => ⟨#[65,114,103,117,109,101,110,116,52]⟩
 | .Item 0 => ⟨#[73,116,101,109,48]⟩
 | .Item 1 => ⟨#[73,116,101,109,49]⟩
 | .Item 2 => ⟨#[73,116,101,109,50]⟩
 | .Item 3 => ⟨#[73,116,101,109,51]⟩
 | .Item 4 => ⟨#[73,116,101,109,52]⟩
 | .Item 5 => ⟨#[73,116,101,109,53]⟩
 | _ => ⟨#[]⟩
def symStr : Sy -> ByteArray
 | .tm k => nameK k
 | .nt x => xStr x
def okX : X -> Bool
 | .Param m => decide (m <= 3)
 | .Name m => decide (m <= 4)
 | .Argument m => decide (m <= 4)
 | .Item m => decide (m <= 5)
 | _ => true
def okSy : Sy -> Bool
 | .tm k => decide (k < 35)
 | .nt x => okX x
theorem nameK_eq (c : Nat) (hc : c < 35) (k : Nat) (hk : k < 35) : ((nameK k).toList == (nameK c).toList) = decide (k = c) := by
 have : ∀ k c : Fin 35,((nameK k.val).data.toList == (nameK c.val).data.toList) = decide (k.val = c.val) := by decide
 have h := this ⟨k,hk⟩ ⟨c,hc⟩
 rw [ByteArray.toList_eq,ByteArray.toList_eq];exact h
theorem nk0 {k : Nat} (hk : k < 35) : ((nameK k).toList == [101,110,100]) = decide (k = 0) := by
 have h := nameK_eq 0 (by decide) k hk
 rw [show (nameK 0).toList = [101,110,100] by rw [ByteArray.toList_eq];rfl] at h;exact h
theorem nk1 {k : Nat} (hk : k < 35) : ((nameK k).toList == [110,117,109]) = decide (k = 1) := by
 have h := nameK_eq 1 (by decide) k hk
 rw [show (nameK 1).toList = [110,117,109] by rw [ByteArray.toList_eq];rfl] at h;exact h
theorem nk2 {k : Nat} (hk : k < 35) : ((nameK k).toList == [105,100]) = decide (k = 2) := by
 have h := nameK_eq 2 (by decide) k hk
 rw [show (nameK 2).toList = [105,100] by rw [ByteArray.toList_eq];rfl] at h;exact h
theorem nk3 {k : Nat} (hk : k < 35) : ((nameK k).toList == [108,101,116]) = decide (k = 3) := by
 have h := nameK_eq 3 (by decide) k hk
 rw [show (nameK 3).toList = [108,101,116] by rw [ByteArray.toList_eq];rfl] at h;exact h
theorem nk4 {k : Nat} (hk : k < 35) : ((nameK k).toList == [114,101,99]) = decide (k = 4) := by
 have h := nameK_eq 4 (by decide) k hk
 rw [show (nameK 4).toList = [114,101,99] by rw [ByteArray.toList_eq];rfl] at h;exact h
theorem nk5 {k : Nat} (hk : k < 35) : ((nameK k).toList == [105,110]) = decide (k = 5) := by
 have h := nameK_eq 5 (by decide) k hk
 rw [show (nameK 5).toList = [105,110] by rw [ByteArray.toList_eq];rfl] at h;exact h
theorem nk6 {k : Nat} (hk : k < 35) : ((nameK k).toList == [105,102]) = decide (k = 6) := by
 have h := nameK_eq 6 (by decide) k hk
 rw [show (nameK 6).toList = [105,102] by rw [ByteArray.toList_eq];rfl] at h;exact h
theorem nk7 {k : Nat} (hk : k < 35) : ((nameK k).toList == [116,104,101,110]) = decide (k = 7) := by
 have h := nameK_eq 7 (by decide) k hk
 rw [show (nameK 7).toList = [116,104,101,110] by rw [ByteArray.toList_eq];rfl] at h;exact h
theorem nk8 {k : Nat} (hk : k < 35) : ((nameK k).toList == [101,108,115,101]) = decide (k = 8) := by
 have h := nameK_eq 8 (by decide) k hk
 rw [show (nameK 8).toList = [101,108,115,101] by rw [ByteArray.toList_eq];rfl] at h;exact h
theorem nk9 {k : Nat} (hk : k < 35) : ((nameK k).toList == [102,117,110]) = decide (k = 9) := by
 have h := nameK_eq 9 (by decide) k hk
 rw [show (nameK 9).toList = [102,117,110] by rw [ByteArray.toList_eq];rfl] at h;exact h
theorem nk10 {k : Nat} (hk : k < 35) : ((nameK k).toList == [110,111,116]) = decide (k = 10) := by
 have h := nameK_eq 10 (by decide) k hk
 rw [show (nameK 10).toList = [110,111,116] by rw [ByteArray.toList_eq];rfl] at h;exact h
theorem nk11 {k : Nat} (hk : k < 35) : ((nameK k).toList == [116,114,117,101]) = decide (k = 11) := by
 have h := nameK_eq 11 (by decide) k hk
 rw [show (nameK 11).toList = [116,114,117,101] by rw [ByteArray.toList_eq];rfl] at h;exact h
theorem nk12 {k : Nat} (hk : k < 35) : ((nameK k).toList == [102,97,108,115,101]) = decide (k = 12) := by
 have h := nameK_eq 12 (by decide) k hk
 rw [show (nameK 12).toList = [102,97,108,115,101] by rw [ByteArray.toList_eq];rfl] at h;exact h
theorem nk13 {k : Nat} (hk : k < 35) : ((nameK k).toList == [114,101,97,100]) = decide (k = 13) := by
 have h := nameK_eq 13 (by decide) k hk
 rw [show (nameK 13).toList = [114,101,97,100] by rw [ByteArray.toList_eq];rfl] at h;exact h
theorem nk14 {k : Nat} (hk : k < 35) : ((nameK k).toList == [112,114,105,110,116]) = decide (k = 14) := by
 have h := nameK_eq 14 (by decide) k hk
 rw [show (nameK 14).toList = [112,114,105,110,116] by rw [ByteArray.toList_eq];rfl] at h;exact h
theorem nk15 {k : Nat} (hk : k < 35) : ((nameK k).toList == [108,101,110]) = decide (k = 15) := by
 have h := nameK_eq 15 (by decide) k hk
 rw [show (nameK 15).toList = [108,101,110] by rw [ByteArray.toList_eq];rfl] at h;exact h
theorem nk16 {k : Nat} (hk : k < 35) : ((nameK k).toList == [97,114,114,97,121]) = decide (k = 16) := by
 have h := nameK_eq 16 (by decide) k hk
 rw [show (nameK 16).toList = [97,114,114,97,121] by rw [ByteArray.toList_eq];rfl] at h;exact h
theorem nk17 {k : Nat} (hk : k < 35) : ((nameK k).toList == [112,117,116]) = decide (k = 17) := by
 have h := nameK_eq 17 (by decide) k hk
 rw [show (nameK 17).toList = [112,117,116] by rw [ByteArray.toList_eq];rfl] at h;exact h
theorem nk18 {k : Nat} (hk : k < 35) : ((nameK k).toList == [46,40]) = decide (k = 18) := by
 have h := nameK_eq 18 (by decide) k hk
 rw [show (nameK 18).toList = [46,40] by rw [ByteArray.toList_eq];rfl] at h;exact h
theorem nk19 {k : Nat} (hk : k < 35) : ((nameK k).toList == [60,62]) = decide (k = 19) := by
 have h := nameK_eq 19 (by decide) k hk
 rw [show (nameK 19).toList = [60,62] by rw [ByteArray.toList_eq];rfl] at h;exact h
theorem nk20 {k : Nat} (hk : k < 35) : ((nameK k).toList == [60,61]) = decide (k = 20) := by
 have h := nameK_eq 20 (by decide) k hk
 rw [show (nameK 20).toList = [60,61] by rw [ByteArray.toList_eq];rfl] at h;exact h
theorem nk21 {k : Nat} (hk : k < 35) : ((nameK k).toList == [62,61]) = decide (k = 21) := by
 have h := nameK_eq 21 (by decide) k hk
 rw [show (nameK 21).toList = [62,61] by rw [ByteArray.toList_eq];rfl] at h;exact h
theorem nk22 {k : Nat} (hk : k < 35) : ((nameK k).toList == [45,62]) = decide (k = 22) := by
 have h := nameK_eq 22 (by decide) k hk
 rw [show (nameK 22).toList = [45,62] by rw [ByteArray.toList_eq];rfl] at h;exact h
theorem nk23 {k : Nat} (hk : k < 35) : ((nameK k).toList == [40]) = decide (k = 23) := by
 have h := nameK_eq 23 (by decide) k hk
 rw [show (nameK 23).toList = [40] by rw [ByteArray.toList_eq];rfl] at h;exact h
theorem nk24 {k : Nat} (hk : k < 35) : ((nameK k).toList == [41]) = decide (k = 24) := by
 have h := nameK_eq 24 (by decide) k hk
 rw [show (nameK 24).toList = [41] by rw [ByteArray.toList_eq];rfl] at h;exact h
theorem nk25 {k : Nat} (hk : k < 35) : ((nameK k).toList == [44]) = decide (k = 25) := by
 have h := nameK_eq 25 (by decide) k hk
 rw [show (nameK 25).toList = [44] by rw [ByteArray.toList_eq];rfl] at h;exact h
theorem nk26 {k : Nat} (hk : k < 35) : ((nameK k).toList == [59]) = decide (k = 26) := by
 have h := nameK_eq 26 (by decide) k hk
 rw [show (nameK 26).toList = [59] by rw [ByteArray.toList_eq];rfl] at h;exact h
theorem nk27 {k : Nat} (hk : k < 35) : ((nameK k).toList == [61]) = decide (k = 27) := by
 have h := nameK_eq 27 (by decide) k hk
 rw [show (nameK 27).toList = [61] by rw [ByteArray.toList_eq];rfl] at h;exact h
theorem nk28 {k : Nat} (hk : k < 35) : ((nameK k).toList == [60]) = decide (k = 28) := by
 have h := nameK_eq 28 (by decide) k hk
 rw [show (nameK 28).toList = [60] by rw [ByteArray.toList_eq];rfl] at h;exact h
theorem nk29 {k : Nat} (hk : k < 35) : ((nameK k).toList == [62]) = decide (k = 29) := by
 have h := nameK_eq 29 (by decide) k hk
 rw [show (nameK 29).toList = [62] by rw [ByteArray.toList_eq];rfl] at h;exact h
theorem nk30 {k : Nat} (hk : k < 35) : ((nameK k).toList == [43]) = decide (k = 30) := by
 have h := nameK_eq 30 (by decide) k hk
 rw [show (nameK 30).toList = [43] by rw [ByteArray.toList_eq];rfl] at h;exact h
theorem nk31 {k : Nat} (hk : k < 35) : ((nameK k).toList == [45]) = decide (k = 31) := by
 have h := nameK_eq 31 (by decide) k hk
 rw [show (nameK 31).toList = [45] by rw [ByteArray.toList_eq];rfl] at h;exact h
theorem nk32 {k : Nat} (hk : k < 35) : ((nameK k).toList == [42]) = decide (k = 32) := by
 have h := nameK_eq 32 (by decide) k hk
 rw [show (nameK 32).toList = [42] by rw [ByteArray.toList_eq];rfl] at h;exact h
theorem nk33 {k : Nat} (hk : k < 35) : ((nameK k).toList == [47]) = decide (k = 33) := by
 have h := nameK_eq 33 (by decide) k hk
 rw [show (nameK 33).toList = [47] by rw [ByteArray.toList_eq];rfl] at h;exact h
theorem nk34 {k : Nat} (hk : k < 35) : ((nameK k).toList == [37]) = decide (k = 34) := by
 have h := nameK_eq 34 (by decide) k hk
 rw [show (nameK 34).toList = [37] by rw [ByteArray.toList_eq];rfl] at h;exact h
theorem cmpS_k {k : Nat} (hk : k < 35) : cmpS (nameK k) = isCmp k := by
 unfold cmpS isCmp
 rw [nk27 hk,nk19 hk,nk28 hk,nk20 hk,nk29 hk,nk21 hk,Bool.eq_iff_iff]
 simp <;> omega
theorem atoS_k {k : Nat} (hk : k < 35) : atoS (nameK k) = isLeaf k := by
 unfold atoS isLeaf
 rw [nk1 hk,nk2 hk,nk11 hk,nk12 hk,nk13 hk,Bool.eq_iff_iff]
 simp <;> omega
def RuleOut (B : Nat) (e : Ending) (w' : World) (r : Option (List Sy)) : Prop :=
 ∃ v,e = .returned (.tuple #[v,.bool r.isSome]) /\ (∀ xs,r = some xs -> w'.ownsRow B 9 1 v xs.length ((xs.map symStr).map Value.string))
theorem ruleOut_some {B : Nat} {e : Ending} {w' : World} {v : Value} {xs : List Sy} {ys : List ByteArray} {n : Nat} (he : e = .returned (.tuple #[v,.bool true])) (ho : w'.ownsRow B 9 1 v n (ys.map Value.string)) (hn : n = xs.length) (hy : ys = xs.map symStr) : RuleOut B e w' (some xs) := by
 subst hn hy
 exact ⟨v,he,fun xs' h => by injection h with h;subst h;exact ho⟩
theorem ruleOut_none {B : Nat} {e : Ending} {w' : World} {v : Value} (he : e = .returned (.tuple #[v,.bool false])) : RuleOut B e w' none :=
 ⟨v,he,fun xs' h => by cases h⟩
theorem rj {x : X} {s : ByteArray} {k : Nat} {ys : List ByteArray} {xs : List Sy} {w : World} (h : RP (nameK k) s true ys w) (hy : ys = xs.map symStr) (hr : ruleX x k = some xs) :
 Calls Tryz.prog 114 #[.string s,.string (nameK k)] w fun e w' => RuleOut w.heap.size e w' (ruleX x k) /\ Below w.heap.size w w' := by
 refine Calls.mono h ?_
 rintro e w' ⟨v,he,ho,hb⟩
 rw [hr]
 exact ⟨ruleOut_some he ho (by rw [hy];simp) hy,hb⟩
theorem rn {x : X} {s : ByteArray} {k : Nat} {ys : List ByteArray} {w : World} (h : RP (nameK k) s false ys w) (hr : ruleX x k = none) :
 Calls Tryz.prog 114 #[.string s,.string (nameK k)] w fun e w' => RuleOut w.heap.size e w' (ruleX x k) /\ Below w.heap.size w w' := by
 refine Calls.mono h ?_
 rintro e w' ⟨v,he,ho,hb⟩
 rw [hr]
 exact ⟨ruleOut_none he,hb⟩
theorem ruleAll_Expr {k : Nat} (hk : k < 35) (w : World) : Calls Tryz.prog 114 #[.string (xStr (.Expr)),.string (nameK k)] w fun e w' => RuleOut w.heap.size e w' (ruleX (.Expr) k) /\ Below w.heap.size w w' := by
 by_cases c0 : k = 3
 ·exact rj (xs := [.tm 3,.nt (.Let)]) (ra (.Expr_0 (by rw [nk3 hk];simp;exact c0)) w) rfl (by simp [ruleX,isSum,isPro,isOpd,c0])
 ·by_cases c1 : k = 6
  ·exact rj (xs := [.tm 6,.nt (.Expr),.tm 7,.nt (.Expr),.tm 8,.nt (.Expr)]) (ra (.Expr_1 (by rw [nk3 hk];simp;exact c0) (by rw [nk6 hk];simp;exact c1)) w) rfl (by simp [ruleX,isSum,isPro,isOpd,c0,c1])
  ·by_cases c2 : k = 9
   ·exact rj (xs := [.tm 9,.tm 2,.nt (.Param 3),.tm 22,.nt (.Expr)]) (ra (.Expr_2 (by rw [nk3 hk];simp;exact c0) (by rw [nk6 hk];simp;exact c1) (by rw [nk9 hk];simp;exact c2)) w) rfl (by simp [ruleX,isSum,isPro,isOpd,c0,c1,c2])
   ·exact rj (xs := [.nt (.Comparison),.nt (.Rest)]) (ra (.Expr_3 (by rw [nk3 hk];simp;exact c0) (by rw [nk6 hk];simp;exact c1) (by rw [nk9 hk];simp;exact c2)) w) rfl (by simp [ruleX,isSum,isPro,isOpd,c0,c1,c2])
theorem ruleAll_Let {k : Nat} (hk : k < 35) (w : World) : Calls Tryz.prog 114 #[.string (xStr (.Let)),.string (nameK k)] w fun e w' => RuleOut w.heap.size e w' (ruleX (.Let) k) /\ Below w.heap.size w w' := by
 by_cases c0 : k = 4
 ·exact rj (xs := [.tm 4,.tm 2,.tm 2,.nt (.Param 3),.tm 27,.nt (.Expr),.tm 5,.nt (.Expr)]) (ra (.Let_0 (by rw [nk4 hk];simp;exact c0)) w) rfl (by simp [ruleX,isSum,isPro,isOpd,c0])
 ·by_cases c1 : k = 23
  ·exact rj (xs := [.tm 23,.tm 2,.tm 25,.tm 2,.nt (.Name 4),.tm 24,.tm 27,.nt (.Expr),.tm 5,.nt (.Expr)]) (ra (.Let_1 (by rw [nk4 hk];simp;exact c0) (by rw [nk23 hk];simp;exact c1)) w) rfl (by simp [ruleX,isSum,isPro,isOpd,c0,c1])
  ·exact rj (xs := [.tm 2,.tm 27,.nt (.Expr),.tm 5,.nt (.Expr)]) (ra (.Let_2 (by rw [nk4 hk];simp;exact c0) (by rw [nk23 hk];simp;exact c1)) w) rfl (by simp [ruleX,isSum,isPro,isOpd,c0,c1])
theorem ruleAll_Rest {k : Nat} (hk : k < 35) (w : World) : Calls Tryz.prog 114 #[.string (xStr (.Rest)),.string (nameK k)] w fun e w' => RuleOut w.heap.size e w' (ruleX (.Rest) k) /\ Below w.heap.size w w' := by
 by_cases c0 : k = 26
 ·exact rj (xs := [.tm 26,.nt (.Expr)]) (ra (.Rest_0 (by rw [nk26 hk];simp;exact c0)) w) rfl (by simp [ruleX,isSum,isPro,isOpd,c0])
 ·exact rj (xs := []) (ra (.Rest_1 (by rw [nk26 hk];simp;exact c0)) w) rfl (by simp [ruleX,isSum,isPro,isOpd,c0])
theorem ruleAll_Comparison {k : Nat} (hk : k < 35) (w : World) : Calls Tryz.prog 114 #[.string (xStr (.Comparison)),.string (nameK k)] w fun e w' => RuleOut w.heap.size e w' (ruleX (.Comparison) k) /\ Below w.heap.size w w' := by
 exact rj (xs := [.nt (.Sum),.nt (.Compared)]) (ra (.Comparison_0 ) w) rfl (by simp [ruleX,isSum,isPro,isOpd])
theorem ruleAll_Compared {k : Nat} (hk : k < 35) (w : World) : Calls Tryz.prog 114 #[.string (xStr (.Compared)),.string (nameK k)] w fun e w' => RuleOut w.heap.size e w' (ruleX (.Compared) k) /\ Below w.heap.size w w' := by
 by_cases c0 : isCmp k = true
 ·exact rj (xs := [.tm k,.nt (.Sum)]) (ra (.Compared_0 (by rw [cmpS_k hk];exact c0)) w) rfl (by simp [ruleX,isSum,isPro,isOpd,c0])
 ·exact rj (xs := []) (ra (.Compared_1 (by rw [cmpS_k hk];simpa using c0)) w) rfl (by simp [ruleX,isSum,isPro,isOpd,c0])
theorem ruleAll_Sum {k : Nat} (hk : k < 35) (w : World) : Calls Tryz.prog 114 #[.string (xStr (.Sum)),.string (nameK k)] w fun e w' => RuleOut w.heap.size e w' (ruleX (.Sum) k) /\ Below w.heap.size w w' := by
 exact rj (xs := [.nt (.Product),.nt (.Terms)]) (ra (.Sum_0 ) w) rfl (by simp [ruleX,isSum,isPro,isOpd])
theorem ruleAll_Terms {k : Nat} (hk : k < 35) (w : World) : Calls Tryz.prog 114 #[.string (xStr (.Terms)),.string (nameK k)] w fun e w' => RuleOut w.heap.size e w' (ruleX (.Terms) k) /\ Below w.heap.size w w' := by
 by_cases c0 : k = 30
 ·exact rj (xs := [.tm k,.nt (.Product),.nt (.Terms)]) (ra (.Terms_0 (by rw [nk30 hk];simp;exact c0)) w) rfl (by simp [ruleX,isSum,isPro,isOpd,c0])
 ·by_cases c1 : k = 31
  ·exact rj (xs := [.tm k,.nt (.Product),.nt (.Terms)]) (ra (.Terms_1 (by rw [nk30 hk];simp;exact c0) (by rw [nk31 hk];simp;exact c1)) w) rfl (by simp [ruleX,isSum,isPro,isOpd,c0,c1])
  ·exact rj (xs := []) (ra (.Terms_2 (by rw [nk30 hk];simp;exact c0) (by rw [nk31 hk];simp;exact c1)) w) rfl (by simp [ruleX,isSum,isPro,isOpd,c0,c1])
theorem ruleAll_Product {k : Nat} (hk : k < 35) (w : World) : Calls Tryz.prog 114 #[.string (xStr (.Product)),.string (nameK k)] w fun e w' => RuleOut w.heap.size e w' (ruleX (.Product) k) /\ Below w.heap.size w w' := by
 exact rj (xs := [.nt (.Sign),.nt (.Factors)]) (ra (.Product_0 ) w) rfl (by simp [ruleX,isSum,isPro,isOpd])
theorem ruleAll_Factors {k : Nat} (hk : k < 35) (w : World) : Calls Tryz.prog 114 #[.string (xStr (.Factors)),.string (nameK k)] w fun e w' => RuleOut w.heap.size e w' (ruleX (.Factors) k) /\ Below w.heap.size w w' := by
 by_cases c0 : k = 32
 ·exact rj (xs := [.tm k,.nt (.Sign),.nt (.Factors)]) (ra (.Factors_0 (by rw [nk32 hk];simp;exact c0)) w) rfl (by simp [ruleX,isSum,isPro,isOpd,c0])
 ·by_cases c1 : k = 33
  ·exact rj (xs := [.tm k,.nt (.Sign),.nt (.Factors)]) (ra (.Factors_1 (by rw [nk32 hk];simp;exact c0) (by rw [nk33 hk];simp;exact c1)) w) rfl (by simp [ruleX,isSum,isPro,isOpd,c0,c1])
  ·by_cases c2 : k = 34
   ·exact rj (xs := [.tm k,.nt (.Sign),.nt (.Factors)]) (ra (.Factors_2 (by rw [nk32 hk];simp;exact c0) (by rw [nk33 hk];simp;exact c1) (by rw [nk34 hk];simp;exact c2)) w) rfl (by simp [ruleX,isSum,isPro,isOpd,c0,c1,c2])
   ·exact rj (xs := []) (ra (.Factors_3 (by rw [nk32 hk];simp;exact c0) (by rw [nk33 hk];simp;exact c1) (by rw [nk34 hk];simp;exact c2)) w) rfl (by simp [ruleX,isSum,isPro,isOpd,c0,c1,c2])
theorem ruleAll_Sign {k : Nat} (hk : k < 35) (w : World) : Calls Tryz.prog 114 #[.string (xStr (.Sign)),.string (nameK k)] w fun e w' => RuleOut w.heap.size e w' (ruleX (.Sign) k) /\ Below w.heap.size w w' := by
 by_cases c0 : k = 31
 ·exact rj (xs := [.tm k,.nt (.Sign)]) (ra (.Sign_0 (by rw [nk31 hk];simp;exact c0)) w) rfl (by simp [ruleX,isSum,isPro,isOpd,c0])
 ·by_cases c1 : k = 10
  ·exact rj (xs := [.tm k,.nt (.Sign)]) (ra (.Sign_1 (by rw [nk31 hk];simp;exact c0) (by rw [nk10 hk];simp;exact c1)) w) rfl (by simp [ruleX,isSum,isPro,isOpd,c0,c1])
  ·exact rj (xs := [.nt (.Call)]) (ra (.Sign_2 (by rw [nk31 hk];simp;exact c0) (by rw [nk10 hk];simp;exact c1)) w) rfl (by simp [ruleX,isSum,isPro,isOpd,c0,c1])
theorem ruleAll_Call {k : Nat} (hk : k < 35) (w : World) : Calls Tryz.prog 114 #[.string (xStr (.Call)),.string (nameK k)] w fun e w' => RuleOut w.heap.size e w' (ruleX (.Call) k) /\ Below w.heap.size w w' := by
 by_cases c0 : k = 14
 ·exact rj (xs := [.tm k,.nt (.Operand)]) (ra (.Call_0 (by rw [nk14 hk];simp;exact c0)) w) rfl (by simp [ruleX,isSum,isPro,isOpd,c0])
 ·by_cases c1 : k = 15
  ·exact rj (xs := [.tm k,.nt (.Operand)]) (ra (.Call_1 (by rw [nk14 hk];simp;exact c0) (by rw [nk15 hk];simp;exact c1)) w) rfl (by simp [ruleX,isSum,isPro,isOpd,c0,c1])
  ·by_cases c2 : k = 16
   ·exact rj (xs := [.tm k,.nt (.Operand),.nt (.Operand)]) (ra (.Call_2 (by rw [nk14 hk];simp;exact c0) (by rw [nk15 hk];simp;exact c1) (by rw [nk16 hk];simp;exact c2)) w) rfl (by simp [ruleX,isSum,isPro,isOpd,c0,c1,c2])
   ·by_cases c3 : k = 17
    ·exact rj (xs := [.tm k,.nt (.Operand),.nt (.Operand),.nt (.Operand)]) (ra (.Call_3 (by rw [nk14 hk];simp;exact c0) (by rw [nk15 hk];simp;exact c1) (by rw [nk16 hk];simp;exact c2) (by rw [nk17 hk];simp;exact c3)) w) rfl (by simp [ruleX,isSum,isPro,isOpd,c0,c1,c2,c3])
    ·exact rj (xs := [.nt (.Operand),.nt (.Argument 4)]) (ra (.Call_4 (by rw [nk14 hk];simp;exact c0) (by rw [nk15 hk];simp;exact c1) (by rw [nk16 hk];simp;exact c2) (by rw [nk17 hk];simp;exact c3)) w) rfl (by simp [ruleX,isSum,isPro,isOpd,c0,c1,c2,c3])
theorem ruleAll_Operand {k : Nat} (hk : k < 35) (w : World) : Calls Tryz.prog 114 #[.string (xStr (.Operand)),.string (nameK k)] w fun e w' => RuleOut w.heap.size e w' (ruleX (.Operand) k) /\ Below w.heap.size w w' := by
 exact rj (xs := [.nt (.Atom),.nt (.Index)]) (ra (.Operand_0 ) w) rfl (by simp [ruleX,isSum,isPro,isOpd])
theorem ruleAll_Index {k : Nat} (hk : k < 35) (w : World) : Calls Tryz.prog 114 #[.string (xStr (.Index)),.string (nameK k)] w fun e w' => RuleOut w.heap.size e w' (ruleX (.Index) k) /\ Below w.heap.size w w' := by
 by_cases c0 : k = 18
 ·exact rj (xs := [.tm 18,.nt (.Expr),.tm 24,.nt (.Index)]) (rb (.Index_0 (by rw [nk18 hk];simp;exact c0)) w) rfl (by simp [ruleX,isSum,isPro,isOpd,c0])
 ·exact rj (xs := []) (rb (.Index_1 (by rw [nk18 hk];simp;exact c0)) w) rfl (by simp [ruleX,isSum,isPro,isOpd,c0])
theorem ruleAll_Atom {k : Nat} (hk : k < 35) (w : World) : Calls Tryz.prog 114 #[.string (xStr (.Atom)),.string (nameK k)] w fun e w' => RuleOut w.heap.size e w' (ruleX (.Atom) k) /\ Below w.heap.size w w' := by
 by_cases c0 : k = 23
 ·exact rj (xs := [.tm 23,.nt (.Bracket)]) (rb (.Atom_0 (by rw [nk23 hk];simp;exact c0)) w) rfl (by simp [ruleX,isSum,isPro,isOpd,c0])
 ·by_cases c1 : isLeaf k = true
  ·exact rj (xs := [.tm k]) (rb (.Atom_1 (by rw [nk23 hk];simp;exact c0) (by rw [atoS_k hk];exact c1)) w) rfl (by simp [ruleX,isSum,isPro,isOpd,c0,c1])
  ·exact rn (rb (.Atom_2 (by rw [nk23 hk];simp;exact c0) (by rw [atoS_k hk];simpa using c1)) w) (by simp [ruleX,c0,c1])
theorem ruleAll_Bracket {k : Nat} (hk : k < 35) (w : World) : Calls Tryz.prog 114 #[.string (xStr (.Bracket)),.string (nameK k)] w fun e w' => RuleOut w.heap.size e w' (ruleX (.Bracket) k) /\ Below w.heap.size w w' := by
 by_cases c0 : k = 24
 ·exact rj (xs := [.tm 24]) (rb (.Bracket_0 (by rw [nk24 hk];simp;exact c0)) w) rfl (by simp [ruleX,isSum,isPro,isOpd,c0])
 ·exact rj (xs := [.nt (.Expr),.nt (.Item 5),.tm 24]) (rb (.Bracket_1 (by rw [nk24 hk];simp;exact c0)) w) rfl (by simp [ruleX,isSum,isPro,isOpd,c0])
theorem ruleAll_Param0 {k : Nat} (hk : k < 35) (w : World) : Calls Tryz.prog 114 #[.string (xStr (.Param 0)),.string (nameK k)] w fun e w' => RuleOut w.heap.size e w' (ruleX (.Param 0) k) /\ Below w.heap.size w w' := by
 exact rj (xs := []) (rb (.Param0_0 ) w) rfl (by simp [ruleX,isSum,isPro,isOpd])
theorem ruleAll_Param1 {k : Nat} (hk : k < 35) (w : World) : Calls Tryz.prog 114 #[.string (xStr (.Param 1)),.string (nameK k)] w fun e w' => RuleOut w.heap.size e w' (ruleX (.Param 1) k) /\ Below w.heap.size w w' := by
 by_cases c0 : k = 2
 ·exact rj (xs := [.tm 2,.nt (.Param 0)]) (rb (.Param1_0 (by rw [nk2 hk];simp;exact c0)) w) rfl (by simp [ruleX,isSum,isPro,isOpd,c0])
 ·exact rj (xs := []) (rb (.Param1_1 (by rw [nk2 hk];simp;exact c0)) w) rfl (by simp [ruleX,isSum,isPro,isOpd,c0])
theorem ruleAll_Param2 {k : Nat} (hk : k < 35) (w : World) : Calls Tryz.prog 114 #[.string (xStr (.Param 2)),.string (nameK k)] w fun e w' => RuleOut w.heap.size e w' (ruleX (.Param 2) k) /\ Below w.heap.size w w' := by
 by_cases c0 : k = 2
 ·exact rj (xs := [.tm 2,.nt (.Param 1)]) (rb (.Param2_0 (by rw [nk2 hk];simp;exact c0)) w) rfl (by simp [ruleX,isSum,isPro,isOpd,c0])
 ·exact rj (xs := []) (rb (.Param2_1 (by rw [nk2 hk];simp;exact c0)) w) rfl (by simp [ruleX,isSum,isPro,isOpd,c0])
theorem ruleAll_Param3 {k : Nat} (hk : k < 35) (w : World) : Calls Tryz.prog 114 #[.string (xStr (.Param 3)),.string (nameK k)] w fun e w' => RuleOut w.heap.size e w' (ruleX (.Param 3) k) /\ Below w.heap.size w w' := by
 by_cases c0 : k = 2
 ·exact rj (xs := [.tm 2,.nt (.Param 2)]) (rb (.Param3_0 (by rw [nk2 hk];simp;exact c0)) w) rfl (by simp [ruleX,isSum,isPro,isOpd,c0])
 ·exact rj (xs := []) (rb (.Param3_1 (by rw [nk2 hk];simp;exact c0)) w) rfl (by simp [ruleX,isSum,isPro,isOpd,c0])
theorem ruleAll_Name0 {k : Nat} (hk : k < 35) (w : World) : Calls Tryz.prog 114 #[.string (xStr (.Name 0)),.string (nameK k)] w fun e w' => RuleOut w.heap.size e w' (ruleX (.Name 0) k) /\ Below w.heap.size w w' := by
 exact rj (xs := []) (rb (.Name0_0 ) w) rfl (by simp [ruleX,isSum,isPro,isOpd])
theorem ruleAll_Name1 {k : Nat} (hk : k < 35) (w : World) : Calls Tryz.prog 114 #[.string (xStr (.Name 1)),.string (nameK k)] w fun e w' => RuleOut w.heap.size e w' (ruleX (.Name 1) k) /\ Below w.heap.size w w' := by
 by_cases c0 : k = 25
 ·exact rj (xs := [.tm 25,.tm 2,.nt (.Name 0)]) (rb (.Name1_0 (by rw [nk25 hk];simp;exact c0)) w) rfl (by simp [ruleX,isSum,isPro,isOpd,c0])
 ·exact rj (xs := []) (rb (.Name1_1 (by rw [nk25 hk];simp;exact c0)) w) rfl (by simp [ruleX,isSum,isPro,isOpd,c0])
theorem ruleAll_Name2 {k : Nat} (hk : k < 35) (w : World) : Calls Tryz.prog 114 #[.string (xStr (.Name 2)),.string (nameK k)] w fun e w' => RuleOut w.heap.size e w' (ruleX (.Name 2) k) /\ Below w.heap.size w w' := by
 by_cases c0 : k = 25
 ·exact rj (xs := [.tm 25,.tm 2,.nt (.Name 1)]) (rb (.Name2_0 (by rw [nk25 hk];simp;exact c0)) w) rfl (by simp [ruleX,isSum,isPro,isOpd,c0])
 ·exact rj (xs := []) (rb (.Name2_1 (by rw [nk25 hk];simp;exact c0)) w) rfl (by simp [ruleX,isSum,isPro,isOpd,c0])
theorem ruleAll_Name3 {k : Nat} (hk : k < 35) (w : World) : Calls Tryz.prog 114 #[.string (xStr (.Name 3)),.string (nameK k)] w fun e w' => RuleOut w.heap.size e w' (ruleX (.Name 3) k) /\ Below w.heap.size w w' := by
 by_cases c0 : k = 25
 ·exact rj (xs := [.tm 25,.tm 2,.nt (.Name 2)]) (rb (.Name3_0 (by rw [nk25 hk];simp;exact c0)) w) rfl (by simp [ruleX,isSum,isPro,isOpd,c0])
 ·exact rj (xs := []) (rb (.Name3_1 (by rw [nk25 hk];simp;exact c0)) w) rfl (by simp [ruleX,isSum,isPro,isOpd,c0])
theorem ruleAll_Name4 {k : Nat} (hk : k < 35) (w : World) : Calls Tryz.prog 114 #[.string (xStr (.Name 4)),.string (nameK k)] w fun e w' => RuleOut w.heap.size e w' (ruleX (.Name 4) k) /\ Below w.heap.size w w' := by
 by_cases c0 : k = 25
 ·exact rj (xs := [.tm 25,.tm 2,.nt (.Name 3)]) (rb (.Name4_0 (by rw [nk25 hk];simp;exact c0)) w) rfl (by simp [ruleX,isSum,isPro,isOpd,c0])
 ·exact rj (xs := []) (rb (.Name4_1 (by rw [nk25 hk];simp;exact c0)) w) rfl (by simp [ruleX,isSum,isPro,isOpd,c0])
theorem ruleAll_Argument0 {k : Nat} (hk : k < 35) (w : World) : Calls Tryz.prog 114 #[.string (xStr (.Argument 0)),.string (nameK k)] w fun e w' => RuleOut w.heap.size e w' (ruleX (.Argument 0) k) /\ Below w.heap.size w w' := by
 exact rj (xs := []) (rb (.Argument0_0 ) w) rfl (by simp [ruleX,isSum,isPro,isOpd])
theorem ruleAll_Argument1 {k : Nat} (hk : k < 35) (w : World) : Calls Tryz.prog 114 #[.string (xStr (.Argument 1)),.string (nameK k)] w fun e w' => RuleOut w.heap.size e w' (ruleX (.Argument 1) k) /\ Below w.heap.size w w' := by
 by_cases c0 : isLeaf k = true
 ·exact rj (xs := [.nt (.Operand),.nt (.Argument 0)]) (rc (.Argument1_0 (by rw [atoS_k hk];exact c0)) w) rfl (by simp [ruleX,isSum,isPro,isOpd,c0])
 ·by_cases c1 : k = 23
  ·exact rj (xs := [.nt (.Operand),.nt (.Argument 0)]) (rc (.Argument1_1 (by rw [atoS_k hk];simpa using c0) (by rw [nk23 hk];simp;exact c1)) w) rfl (by simp [ruleX,isSum,isPro,isOpd,c0,c1])
  ·exact rj (xs := []) (rc (.Argument1_2 (by rw [atoS_k hk];simpa using c0) (by rw [nk23 hk];simp;exact c1)) w) rfl (by simp [ruleX,isSum,isPro,isOpd,c0,c1])
theorem ruleAll_Argument2 {k : Nat} (hk : k < 35) (w : World) : Calls Tryz.prog 114 #[.string (xStr (.Argument 2)),.string (nameK k)] w fun e w' => RuleOut w.heap.size e w' (ruleX (.Argument 2) k) /\ Below w.heap.size w w' := by
 by_cases c0 : isLeaf k = true
 ·exact rj (xs := [.nt (.Operand),.nt (.Argument 1)]) (rc (.Argument2_0 (by rw [atoS_k hk];exact c0)) w) rfl (by simp [ruleX,isSum,isPro,isOpd,c0])
 ·by_cases c1 : k = 23
  ·exact rj (xs := [.nt (.Operand),.nt (.Argument 1)]) (rc (.Argument2_1 (by rw [atoS_k hk];simpa using c0) (by rw [nk23 hk];simp;exact c1)) w) rfl (by simp [ruleX,isSum,isPro,isOpd,c0,c1])
  ·exact rj (xs := []) (rc (.Argument2_2 (by rw [atoS_k hk];simpa using c0) (by rw [nk23 hk];simp;exact c1)) w) rfl (by simp [ruleX,isSum,isPro,isOpd,c0,c1])
theorem ruleAll_Argument3 {k : Nat} (hk : k < 35) (w : World) : Calls Tryz.prog 114 #[.string (xStr (.Argument 3)),.string (nameK k)] w fun e w' => RuleOut w.heap.size e w' (ruleX (.Argument 3) k) /\ Below w.heap.size w w' := by
 by_cases c0 : isLeaf k = true
 ·exact rj (xs := [.nt (.Operand),.nt (.Argument 2)]) (rc (.Argument3_0 (by rw [atoS_k hk];exact c0)) w) rfl (by simp [ruleX,isSum,isPro,isOpd,c0])
 ·by_cases c1 : k = 23
  ·exact rj (xs := [.nt (.Operand),.nt (.Argument 2)]) (rc (.Argument3_1 (by rw [atoS_k hk];simpa using c0) (by rw [nk23 hk];simp;exact c1)) w) rfl (by simp [ruleX,isSum,isPro,isOpd,c0,c1])
  ·exact rj (xs := []) (rc (.Argument3_2 (by rw [atoS_k hk];simpa using c0) (by rw [nk23 hk];simp;exact c1)) w) rfl (by simp [ruleX,isSum,isPro,isOpd,c0,c1])
theorem ruleAll_Argument4 {k : Nat} (hk : k < 35) (w : World) : Calls Tryz.prog 114 #[.string (xStr (.Argument 4)),.string (nameK k)] w fun e w' => RuleOut w.heap.size e w' (ruleX (.Argument 4) k) /\ Below w.heap.size w w' := by
 by_cases c0 : isLeaf k = true
 ·exact rj (xs := [.nt (.Operand),.nt (.Argument 3)]) (rc (.Argument4_0 (by rw [atoS_k hk];exact c0)) w) rfl (by simp [ruleX,isSum,isPro,isOpd,c0])
 ·by_cases c1 : k = 23
  ·exact rj (xs := [.nt (.Operand),.nt (.Argument 3)]) (rc (.Argument4_1 (by rw [atoS_k hk];simpa using c0) (by rw [nk23 hk];simp;exact c1)) w) rfl (by simp [ruleX,isSum,isPro,isOpd,c0,c1])
  ·exact rj (xs := []) (rc (.Argument4_2 (by rw [atoS_k hk];simpa using c0) (by rw [nk23 hk];simp;exact c1)) w) rfl (by simp [ruleX,isSum,isPro,isOpd,c0,c1])
theorem ruleAll_Item0 {k : Nat} (hk : k < 35) (w : World) : Calls Tryz.prog 114 #[.string (xStr (.Item 0)),.string (nameK k)] w fun e w' => RuleOut w.heap.size e w' (ruleX (.Item 0) k) /\ Below w.heap.size w w' := by
 exact rj (xs := []) (rc (.Item0_0 ) w) rfl (by simp [ruleX,isSum,isPro,isOpd])
theorem ruleAll_Item1 {k : Nat} (hk : k < 35) (w : World) : Calls Tryz.prog 114 #[.string (xStr (.Item 1)),.string (nameK k)] w fun e w' => RuleOut w.heap.size e w' (ruleX (.Item 1) k) /\ Below w.heap.size w w' := by
 by_cases c0 : k = 25
 ·exact rj (xs := [.tm 25,.nt (.Expr),.nt (.Item 0)]) (rc (.Item1_0 (by rw [nk25 hk];simp;exact c0)) w) rfl (by simp [ruleX,isSum,isPro,isOpd,c0])
 ·exact rj (xs := []) (rc (.Item1_1 (by rw [nk25 hk];simp;exact c0)) w) rfl (by simp [ruleX,isSum,isPro,isOpd,c0])
theorem ruleAll_Item2 {k : Nat} (hk : k < 35) (w : World) : Calls Tryz.prog 114 #[.string (xStr (.Item 2)),.string (nameK k)] w fun e w' => RuleOut w.heap.size e w' (ruleX (.Item 2) k) /\ Below w.heap.size w w' := by
 by_cases c0 : k = 25
 ·exact rj (xs := [.tm 25,.nt (.Expr),.nt (.Item 1)]) (rc (.Item2_0 (by rw [nk25 hk];simp;exact c0)) w) rfl (by simp [ruleX,isSum,isPro,isOpd,c0])
 ·exact rj (xs := []) (rc (.Item2_1 (by rw [nk25 hk];simp;exact c0)) w) rfl (by simp [ruleX,isSum,isPro,isOpd,c0])
theorem ruleAll_Item3 {k : Nat} (hk : k < 35) (w : World) : Calls Tryz.prog 114 #[.string (xStr (.Item 3)),.string (nameK k)] w fun e w' => RuleOut w.heap.size e w' (ruleX (.Item 3) k) /\ Below w.heap.size w w' := by
 by_cases c0 : k = 25
 ·exact rj (xs := [.tm 25,.nt (.Expr),.nt (.Item 2)]) (rc (.Item3_0 (by rw [nk25 hk];simp;exact c0)) w) rfl (by simp [ruleX,isSum,isPro,isOpd,c0])
 ·exact rj (xs := []) (rc (.Item3_1 (by rw [nk25 hk];simp;exact c0)) w) rfl (by simp [ruleX,isSum,isPro,isOpd,c0])
theorem ruleAll_Item4 {k : Nat} (hk : k < 35) (w : World) : Calls Tryz.prog 114 #[.string (xStr (.Item 4)),.string (nameK k)] w fun e w' => RuleOut w.heap.size e w' (ruleX (.Item 4) k) /\ Below w.heap.size w w' := by
 by_cases c0 : k = 25
 ·exact rj (xs := [.tm 25,.nt (.Expr),.nt (.Item 3)]) (rc (.Item4_0 (by rw [nk25 hk];simp;exact c0)) w) rfl (by simp [ruleX,isSum,isPro,isOpd,c0])
 ·exact rj (xs := []) (rc (.Item4_1 (by rw [nk25 hk];simp;exact c0)) w) rfl (by simp [ruleX,isSum,isPro,isOpd,c0])
theorem ruleAll_Item5 {k : Nat} (hk : k < 35) (w : World) : Calls Tryz.prog 114 #[.string (xStr (.Item 5)),.string (nameK k)] w fun e w' => RuleOut w.heap.size e w' (ruleX (.Item 5) k) /\ Below w.heap.size w w' := by
 by_cases c0 : k = 25
 ·exact rj (xs := [.tm 25,.nt (.Expr),.nt (.Item 4)]) (rc (.Item5_0 (by rw [nk25 hk];simp;exact c0)) w) rfl (by simp [ruleX,isSum,isPro,isOpd,c0])
 ·exact rj (xs := []) (rc (.Item5_1 (by rw [nk25 hk];simp;exact c0)) w) rfl (by simp [ruleX,isSum,isPro,isOpd,c0])
end Go.Proofs.YtmkdoejpgkgpbaaGreatDoor
namespace Go.Proofs.YtmkdoejpgkgpbaaGreatDoor
namespace Sl
def wtX : X -> Nat
 | .Expr => 15 | .Let => 33 | .Comparison => 14 | .Sum => 13 | .Product => 12 | .Sign => 11 | .Call => 11 | .Operand => 2 | .Bracket => 17
 | .Argument m => 2 * m + 1
 | _ => 1
def wtS : List Sy -> Nat
 | [] => 0
 | .tm _ :: S => 1 + wtS S
 | .nt x :: S => wtX x + wtS S
theorem wtS_app (a b : List Sy) : wtS (a ++ b) = wtS a + wtS b := by
 induction a with
 | nil => simp [wtS]
 | cons s a ih => cases s <;> simp [wtS,ih] <;> omega
theorem wtS_len (S : List Sy) : S.length <= wtS S := by
 induction S with
 | nil => simp [wtS]
 | cons s S ih =>
   cases s with
   | tm k => simp [wtS];omega
   | nt x =>
     have : 1 <= wtX x := by cases x <;> simp [wtX]
     simp [wtS];omega
def Bd (C : Nat) (S : List Sy) (l : List Tok) : Prop :=
 wtS S + 100 * l.length <= C \/ ∃ k S' t l',S = .tm k :: S' /\ l = t :: l' /\ t.k = k /\ wtS S' + 100 * l'.length <= C
theorem Bd.len {C : Nat} {S : List Sy} {l : List Tok} (h : Bd C S l) : S.length <= C + 1 := by
 rcases h with h | ⟨k,S',t,l',rfl,rfl,_,h⟩
 ·have := wtS_len S;omega
 ·have := wtS_len S';simp;omega
theorem Bd.tm {C k : Nat} {S : List Sy} {t : Tok} {l : List Tok} (h : Bd C (.tm k :: S) (t :: l)) : Bd C S l := by
 rcases h with h | ⟨k',S',t',l',h1,h2,_,h⟩
 ·left;simp [wtS] at h;omega
 ·injection h1 with _ h1;injection h2 with _ h2;subst h1 h2;left;exact h
theorem Bd.nt {C : Nat} {x : X} {xs S : List Sy} {t : Tok} {l : List Tok} (h : Bd C (.nt x :: S) (t :: l)) (hr : ruleX x t.k = some xs) : Bd C (xs ++ S) (t :: l) := by
 rcases h with h | ⟨k',S',t',l',h1,_⟩
 ·simp only [wtS,List.length_cons] at h
  have key : wtS xs <= wtX x \/ ∃ k ys,xs = .tm k :: ys /\ t.k = k /\ wtS ys <= wtX x + 100 := by
   unfold ruleX at hr
   split at hr <;> (try split at hr) <;> (try split at hr) <;> (try split at hr) <;> (try split at hr) <;> first
    | (simp at hr;done)
    | (injection hr with hr;subst hr;left;simp [wtS,wtX];done)
    | (injection hr with hr;subst hr;right;exact ⟨_,_,rfl,by assumption,by simp [wtS,wtX]⟩)
    | (rename_i hh;injection hr with hr;subst hr;right;exact ⟨_,_,rfl,hh.1,by simp [wtS,wtX]⟩)
    | (injection hr with hr;subst hr;right;exact ⟨_,_,rfl,rfl,by simp [wtS,wtX]⟩)
    | (rename_i hh;simp only [Bool.and_eq_true,decide_eq_true_eq] at hh;injection hr with hr;subst hr;left;simp [wtS,wtX];omega)
  rcases key with key | ⟨k,ys,rfl,hk,hy⟩
  ·left;rw [wtS_app,List.length_cons];omega
  ·right
   refine ⟨k,ys ++ S,t,l,rfl,rfl,hk,?_⟩
   rw [wtS_app];omega
 ·cases h1
theorem mr_op {N n k o : Nat} {S : List Sy} {t : Tok} {l : List Tok} {r : Option (Nat × Nat)} (hm : MR N n (.tm k :: S) (t :: l) o r) (hk : t.k = k) (h : k = 23 \/ k = 18) (ho : o < N) : ∃ n',n = n' + 1 /\ MR N n' S l (o + 1) r := by
 cases hm with
 | tm _ h1 h2 _ _ => omega
 | tmBad h => exact absurd hk h
 | op _ _ _ h => exact ⟨_,rfl,h⟩
 | opNest _ _ h => omega
 | cl h _ => omega
theorem mr_nest {N n k o : Nat} {S : List Sy} {t : Tok} {l : List Tok} {r : Option (Nat × Nat)} (hm : MR N n (.tm k :: S) (t :: l) o r) (hk : t.k = k) (h : k = 23 \/ k = 18) (ho : ¬ o < N) : r = some (5,t.p) := by
 cases hm with
 | tm _ h1 h2 _ _ => omega
 | tmBad h => exact absurd hk h
 | op _ _ h _ => omega
 | opNest _ _ _ => rfl
 | cl h _ => omega
theorem mr_cl {N n k o : Nat} {S : List Sy} {t : Tok} {l : List Tok} {r : Option (Nat × Nat)} (hm : MR N n (.tm k :: S) (t :: l) o r) (hk : t.k = k) (h : k = 24) : ∃ n',n = n' + 1 /\ MR N n' S l (o - 1) r := by
 cases hm with
 | tm _ h1 h2 h3 _ => omega
 | tmBad h => exact absurd hk h
 | op _ h _ _ => omega
 | opNest _ h _ => omega
 | cl _ h => exact ⟨_,rfl,h⟩
theorem mr_tm {N n k o : Nat} {S : List Sy} {t : Tok} {l : List Tok} {r : Option (Nat × Nat)} (hm : MR N n (.tm k :: S) (t :: l) o r) (hk : t.k = k) (h : ¬ (k = 23 \/ k = 18)) (h4 : k ≠ 24) : ∃ n',n = n' + 1 /\ MR N n' S l o r := by
 cases hm with
 | tm _ h1 h2 h3 h => exact ⟨_,rfl,h⟩
 | tmBad h => exact absurd hk h
 | op _ h' _ _ => exact absurd h' h
 | opNest _ h' _ => exact absurd h' h
 | cl h _ => exact absurd rfl h4
def ndS : List Sy -> Nat
 | [] => 0
 | .tm k :: S => if k = 24 then 1 + ndS S else if k = 23 \/ k = 18 then ndS S - 1 else ndS S
 | .nt .Bracket :: S => 1 + ndS S
 | .nt _ :: S => ndS S
theorem nd_rule {x : X} {k : Nat} {xs S : List Sy} (hr : ruleX x k = some xs) : ndS (xs ++ S) <= ndS (.nt x :: S) := by
 unfold ruleX at hr
 split at hr <;> (try split at hr) <;> (try split at hr) <;> (try split at hr) <;> (try split at hr) <;> first
  | (simp at hr;done)
  | (injection hr with hr;subst hr;simp [ndS];done)
  | (rename_i hh;injection hr with hr;subst hr;simp only [isCmp,isSum,isPro,isLeaf,Bool.or_eq_true,beq_iff_eq] at hh;simp only [List.cons_append,List.nil_append,ndS];rw [if_neg (by omega),if_neg (by omega)];exact Nat.le_refl _)
end Sl
end Go.Proofs.YtmkdoejpgkgpbaaGreatDoor
namespace Go.Proofs.YtmkdoejpgkgpbaaGreatDoor
open Go.RowKit Sl
theorem rule_all (x : X) (hx : okX x = true) {k : Nat} (hk : k < 35) (w : World) : Calls Tryz.prog 114 #[.string (xStr x),.string (nameK k)] w fun e w' => RuleOut w.heap.size e w' (ruleX x k) /\ Below w.heap.size w w' := by
 cases x with
 | Expr => exact ruleAll_Expr hk w
 | Let => exact ruleAll_Let hk w
 | Rest => exact ruleAll_Rest hk w
 | Comparison => exact ruleAll_Comparison hk w
 | Compared => exact ruleAll_Compared hk w
 | Sum => exact ruleAll_Sum hk w
 | Terms => exact ruleAll_Terms hk w
 | Product => exact ruleAll_Product hk w
 | Factors => exact ruleAll_Factors hk w
 | Sign => exact ruleAll_Sign hk w
 | Call => exact ruleAll_Call hk w
 | Operand => exact ruleAll_Operand hk w
 | Index => exact ruleAll_Index hk w
 | Atom => exact ruleAll_Atom hk w
 | Bracket => exact ruleAll_Bracket hk w
 | Param m =>
   match m,hx with
   | 0,_ => exact ruleAll_Param0 hk w
   | 1,_ => exact ruleAll_Param1 hk w
   | 2,_ => exact ruleAll_Param2 hk w
   | 3,_ => exact ruleAll_Param3 hk w
   | m + 4,h => simp [okX] at h
 | Name m =>
   match m,hx with
   | 0,_ => exact ruleAll_Name0 hk w
   | 1,_ => exact ruleAll_Name1 hk w
   | 2,_ => exact ruleAll_Name2 hk w
   | 3,_ => exact ruleAll_Name3 hk w
   | 4,_ => exact ruleAll_Name4 hk w
   | m + 5,h => simp [okX] at h
 | Argument m =>
   match m,hx with
   | 0,_ => exact ruleAll_Argument0 hk w
   | 1,_ => exact ruleAll_Argument1 hk w
   | 2,_ => exact ruleAll_Argument2 hk w
   | 3,_ => exact ruleAll_Argument3 hk w
   | 4,_ => exact ruleAll_Argument4 hk w
   | m + 5,h => simp [okX] at h
 | Item m =>
   match m,hx with
   | 0,_ => exact ruleAll_Item0 hk w
   | 1,_ => exact ruleAll_Item1 hk w
   | 2,_ => exact ruleAll_Item2 hk w
   | 3,_ => exact ruleAll_Item3 hk w
   | 4,_ => exact ruleAll_Item4 hk w
   | 5,_ => exact ruleAll_Item5 hk w
   | m + 6,h => simp [okX] at h
theorem rule_ok {x : X} {k : Nat} {xs : List Sy} (hx : okX x = true) (hk : k < 35) (hr : ruleX x k = some xs) : ∀ s ∈ xs,okSy s = true := by
 unfold ruleX at hr
 split at hr <;> (try split at hr) <;> (try split at hr) <;> (try split at hr) <;> (try split at hr) <;> first
  | (simp at hr;done)
  | (injection hr with hr;subst hr;simp [okSy,okX];done)
  | (injection hr with hr;subst hr;simp [okSy,okX,hk];done)
  | (injection hr with hr;subst hr;simp [okX] at hx;simp [okSy,okX];omega)
theorem rule_len {x : X} {k : Nat} {xs : List Sy} (hr : ruleX x k = some xs) : xs.length <= 10 := by
 unfold ruleX at hr
 split at hr <;> (try split at hr) <;> (try split at hr) <;> (try split at hr) <;> (try split at hr) <;> first
  | (simp at hr;done)
  | (injection hr with hr;subst hr;simp;done)
def isNt : Sy -> Bool
 | .tm _ => false
 | .nt _ => true
def capB (x : ByteArray) : Bool := if h : 0 < x.size then decide (65 <= x[0].toNat) && decide (x[0].toNat <= 90) else false
theorem sym_cap (s : Sy) (hs : okSy s = true) : 0 < (symStr s).size /\ (symStr s).size <= 1000 /\ capB (symStr s) = isNt s := by
 cases s with
 | tm k =>
   have : ∀ k : Fin 35,0 < (nameK k.val).size /\ (nameK k.val).size <= 1000 /\ capB (nameK k.val) = false := by decide
   simp only [okSy,decide_eq_true_eq] at hs
   exact this ⟨k,hs⟩
 | nt x =>
   cases x with
   | Param m => match m,hs with
     | 0,_ | 1,_ | 2,_ | 3,_ => decide
     | m + 4,h => simp [okSy,okX] at h
   | Name m => match m,hs with
     | 0,_ | 1,_ | 2,_ | 3,_ | 4,_ => decide
     | m + 5,h => simp [okSy,okX] at h
   | Argument m => match m,hs with
     | 0,_ | 1,_ | 2,_ | 3,_ | 4,_ => decide
     | m + 5,h => simp [okSy,okX] at h
   | Item m => match m,hs with
     | 0,_ | 1,_ | 2,_ | 3,_ | 4,_ | 5,_ => decide
     | m + 6,h => simp [okSy,okX] at h
   | _ => decide
theorem partB_any (x : ByteArray) (hx : 0 < x.size) (w : World) :
 Calls Tryz.prog 113 #[.string x] w fun e w' => e = .returned (.bool (capB x)) /\ w' = w := by
 refine (part_any x hx w).mono ?_
 rintro e w' ⟨rfl,rfl⟩
 exact ⟨ret_bool (by rw [capB,dif_pos hx]),rfl⟩
theorem least_ex : ∃ m : (Nat -> Prop) -> Nat,∀ (p : Nat -> Prop) n,p n -> p (m p) /\ m p <= n := by
 have : ∀ p : Nat -> Prop,∃ k,∀ n,p n -> p k /\ k <= n := by
  intro p
  by_cases h : ∃ n,p n
  ·obtain ⟨n,hn⟩ := h
   have key : ∀ n,p n -> ∃ k,p k /\ ∀ m,p m -> k <= m := by
    intro n
    induction n using Nat.strongRecOn with
    | ind n ih =>
      intro hn
      by_cases h : ∃ m,m < n /\ p m
      ·obtain ⟨m,hm,hpm⟩ := h
       exact ih m hm hpm
      ·refine ⟨n,hn,fun m hpm => ?_⟩
       rcases Nat.lt_or_ge m n with h' | h'
       ·exact absurd ⟨m,h',hpm⟩ h
       ·exact h'
   obtain ⟨k,h1,h2⟩ := key n hn
   exact ⟨k,fun m hm => ⟨h1,h2 m hm⟩⟩
  ·exact ⟨0,fun n hn => absurd ⟨n,hn⟩ h⟩
 exact ⟨fun p => Classical.choose (this p),fun p n hn => Classical.choose_spec (this p) n hn⟩
end Go.Proofs.YtmkdoejpgkgpbaaGreatDoor
namespace Go.Proofs.YtmkdoejpgkgpbaaGreatDoor
open Go.RowKit
section
variable {P : Program} (w : World)
theorem run_append_own2 (base : Nat) (t ty e : TypeId) (i : TypeInfo) (z : Value) (size bytes : Nat) (ht : P.underlying t = some (.slice e)) (hi : P.info? e = some i) (hz : i.zero = some z)
 (hsize : i.size = size) (hby : i.bytes = bytes) (hzs : z.cells.size = size) (hsz : 0 < size)
 (v : Value) (n : Nat) (xs : List Value) (hown : w.ownsRow base e size v n xs)
 (a : Addr) (m c : Nat) (news : List Value) (hl : news.length = m * size) (hnews : ∀ j u,news[j]? = some u -> w.cell? (a.add j) = some u) (h1 : ∀ u ∈ news,u.oneCell' = true)
 (h63 : n + m <= maxLen) (hbytes : (n + m) * bytes <= 140737488355328) (hbase : base <= w.heap.size) :
 ∃ v' w',(Builtin.append_ #[t,t] ty #[v,.slice (some a) m c]).run P w = .ok v' w' /\ w'.ownsRow base e size v' (n + m) (xs ++ news) /\ w.grownBy w' v.ownBlock /\
   (v'.ownBlock = v.ownBlock \/ v'.ownBlock = some w.heap.size) := by
 obtain ⟨v',w',hr,h2,h3,_⟩ := run_append_own (P := P) w base t ty e i z size bytes ht hi hz hsize hby hzs hsz v n xs hown a m c news hl hnews h1 h63 hbytes hbase
 refine ⟨v',w',hr,h2,h3,?_⟩
 subst hsize
 subst hby
 have hsmall : n + m <= 9223372036854775807 := by simp only [maxLen] at h63;omega
 rcases hown.2 with ⟨rfl,rfl⟩ | ⟨g,cap,cur,rfl,hbg,hg,hnc,hcm,hcs,htake⟩
 ·by_cases hm : m = 0
  ·subst hm
   rcases h2.2 with ⟨rfl,_⟩ | ⟨g,cap,cur,rfl,_⟩
   ·left;rfl
   ·have hn : news = [] := List.eq_nil_of_length_eq_zero (by simpa using hl)
    subst hn
    have hr2 : (Builtin.append_ #[t,t] ty #[.slice none 0 0,.slice (some a) 0 c]).run P w = .ok (.slice none 0 0) w := by
     simp [Builtin.append_,run_underlying ht,sizeOf,typeInfo,hi,Builtin.lenOf,Builtin.firstCells,loadCells,loadCellsFrom]
    rw [hr] at hr2
    injection hr2 with e1 _
    cases e1
  ·have hr2 := run_append_nil (P := P) w t ty e i z ht hi hz a m c news hl hnews (by omega) (by omega) (by have hb := hbytes;simp only [Nat.zero_add] at hb;omega)
   rw [hr] at hr2
   injection hr2 with e1 _
   right;rw [e1];rfl
 ·by_cases hroom : n + m <= cap
  ·have hfit : n * i.size + news.length <= cur.size := by rw [hl,hcs,<- Nat.add_mul];exact Nat.mul_le_mul_right _ hroom
   have hr2 := run_append_room (P := P) w t ty e i ht hi g n cap cur hg a m c news hl hnews h1 hroom hfit
   rw [hr] at hr2
   injection hr2 with e1 _
   left;rw [e1];rfl
  ·have holds : ∀ j u,xs[j]? = some u -> w.cell? ((⟨g,0,none⟩ : Addr).add j) = some u := hown.cells (g := g) rfl
   have hr2 := run_append_grow (P := P) w t ty e i z ht hi hz ⟨g,0,none⟩ n cap xs hown.1 holds a m c news hl hnews (by omega) (by omega) (growslice_fits (by omega) hbytes)
   rw [hr] at hr2
   injection hr2 with e1 _
   right;rw [e1];rfl
theorem wpList_append_own2 {ops : Array Oper} {rest : List Oper} {o : Oper} {a : Act} {Q : Exit -> Act -> World -> Prop} (hgd : o.guard = none) (s x : Operand) (t : TypeId)
 (ho : o.op = .call { callee := .builtin .append,args := #[s,x],argTypes := #[t,t] })
 (base : Nat) (e : TypeId) (i : TypeInfo) (z : Value) (size bytes : Nat) (ht : P.underlying t = some (.slice e)) (hi : P.info? e = some i) (hz : i.zero = some z)
 (hsize : i.size = size) (hby : i.bytes = bytes) (hzs : z.cells.size = size) (hsz : 0 < size)
 (v : Value) (n : Nat) (xs : List Value) (hs : a.eval s = v) (hown : w.ownsRow base e size v n xs)
 (ad : Addr) (m c : Nat) (news : List Value) (hx : a.eval x = .slice (some ad) m c) (hl : news.length = m * size) (hnews : ∀ j u,news[j]? = some u -> w.cell? (ad.add j) = some u) (h1 : ∀ u ∈ news,u.oneCell' = true)
 (h63 : n + m <= maxLen) (hbytes : (n + m) * bytes <= 140737488355328) (hbase : base <= w.heap.size)
 (h : ∀ v' w',w'.ownsRow base e size v' (n + m) (xs ++ news) -> w.grownBy w' v.ownBlock -> (v'.ownBlock = v.ownBlock \/ v'.ownBlock = some w.heap.size) -> wpList P ops Q rest (a.put o.dst v') w') : wpList P ops Q (o :: rest) a w := by
 refine wpList_plain hgd fun K hK => ?_
 obtain ⟨v',w',hr,h2,h3,h4⟩ := run_append_own2 (P := P) w base t o.type e i z size bytes ht hi hz hsize hby hzs hsz v n xs hown ad m c news hl hnews h1 h63 hbytes hbase
 unfold Oper.wp execOp
 simp only [ho,resolve,invoke,builtin,Sem.run_bind,Sem.run_pure,Result.andThen_ok,List.map_toArray,List.map_cons,List.map_nil,hs,hx,hr]
 exact hK _ _ (h v' w' h2 h3 h4)
end
end Go.Proofs.YtmkdoejpgkgpbaaGreatDoor
