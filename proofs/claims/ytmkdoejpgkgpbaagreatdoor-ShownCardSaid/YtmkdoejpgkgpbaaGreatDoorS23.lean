import Derived.Test.YtmkdoejpgkgpbaaGreatDoorS20
import Derived.Test.YtmkdoejpgkgpbaaGreatDoorS21
import Derived.Test.YtmkdoejpgkgpbaaGreatDoorS22
set_option linter.unusedVariables false
set_option linter.unusedSimpArgs false
set_option maxHeartbeats 20000000
namespace Go.Proofs.YtmkdoejpgkgpbaaGreatDoor
open Go.RowKit Sl
abbrev FullNow (w : World) (v : Value) (xs : List ByteArray) : Prop := Calls Tryz.prog 70 #[v] w fun e w' => ∃ v',e = .returned v' /\ w'.ownsRow w.heap.size 9 1 v' xs.length (xs.map Value.string) /\ Below w.heap.size w w'
theorem own_lit1 (w : World) (x : ByteArray) (e : TypeId) (B : Nat) (hB : B <= w.heap.size) : (w.alloc (.cells #[.string x] e (0,0))).ownsRow B e 1 (.slice (some ⟨w.heap.size,0,none⟩) 1 1) 1 [.string x] :=
 own_lit (xs := [x]) (blk_new w _) hB rfl (by simp)
set_option maxRecDepth 100000 in
theorem full_num {w : World} {bt : Nat} {pos : Int} {num : Nat} {name : ByteArray} {nv kv : Value} (hblk : w.heap[bt]? = some (.cells #[.string f_num,.int .i64 pos,.int .i64 num,.string name,nv,kv] 205 (0,0))) (hn : num <= 4611686018427387903) : FullNow w (.pointer (some ⟨bt,0,none⟩)) [dec num] := by
 have hlt := lt_of_block hblk
 have hcf := blk_at hblk 0 rfl
 have hcn := blk_at hblk 2 rfl
 clear hblk
 go_enter Tryz.func70,Tryz.ntmps70
 go_wp2_with (go_at_call 120;refine (decimal_any num _ hn).mono ?_;rintro _ w1 ⟨rfl,hb1⟩)
 go_ret
 exact ⟨_,rfl,own_lit1 w1 _ _ _ hb1.size,hb1.alloc hb1.size _⟩
set_option maxRecDepth 100000 in
theorem full_true {w : World} {bt : Nat} {pos : Int} {name : ByteArray} {nv kv : Value} (hblk : w.heap[bt]? = some (.cells #[.string f_bool,.int .i64 pos,.int .i64 1,.string name,nv,kv] 205 (0,0))) : FullNow w (.pointer (some ⟨bt,0,none⟩)) [⟨#[116,114,117,101]⟩] := by
 have hlt := lt_of_block hblk
 have hcf := blk_at hblk 0 rfl
 have hcn := blk_at hblk 2 rfl
 clear hblk
 go_enter Tryz.func70,Tryz.ntmps70
 go_wp2_with fail
 go_ret
 exact ⟨_,rfl,own_lit1 w _ _ _ (Nat.le_refl _),(Below.refl _ _).alloc (Nat.le_refl _) _⟩
set_option maxRecDepth 100000 in
theorem full_false {w : World} {bt : Nat} {pos : Int} {name : ByteArray} {nv kv : Value} (hblk : w.heap[bt]? = some (.cells #[.string f_bool,.int .i64 pos,.int .i64 0,.string name,nv,kv] 205 (0,0))) : FullNow w (.pointer (some ⟨bt,0,none⟩)) [⟨#[102,97,108,115,101]⟩] := by
 have hlt := lt_of_block hblk
 have hcf := blk_at hblk 0 rfl
 have hcn := blk_at hblk 2 rfl
 clear hblk
 go_enter Tryz.func70,Tryz.ntmps70
 go_wp2_with fail
 go_ret
 exact ⟨_,rfl,own_lit1 w _ _ _ (Nat.le_refl _),(Below.refl _ _).alloc (Nat.le_refl _) _⟩
set_option maxRecDepth 100000 in
theorem full_unit {w : World} {bt : Nat} {pos num : Int} {name : ByteArray} {nv kv : Value} (hblk : w.heap[bt]? = some (.cells #[.string f_unit,.int .i64 pos,.int .i64 num,.string name,nv,kv] 205 (0,0))) : FullNow w (.pointer (some ⟨bt,0,none⟩)) [⟨#[40]⟩,⟨#[41]⟩] := by
 have hlt := lt_of_block hblk
 have hcf := blk_at hblk 0 rfl
 clear hblk
 go_enter Tryz.func70,Tryz.ntmps70
 go_wp2_with fail
 go_ret
 exact ⟨_,rfl,own_lit (xs := [⟨#[40]⟩,⟨#[41]⟩]) (blk_new w _) (Nat.le_refl _) rfl (by simp),(Below.refl _ _).alloc (Nat.le_refl _) _⟩
set_option maxRecDepth 100000 in
theorem full_read {w : World} {bt : Nat} {pos num : Int} {name : ByteArray} {nv kv : Value} (hblk : w.heap[bt]? = some (.cells #[.string f_read,.int .i64 pos,.int .i64 num,.string name,nv,kv] 205 (0,0))) : FullNow w (.pointer (some ⟨bt,0,none⟩)) [⟨#[114,101,97,100]⟩] := by
 have hlt := lt_of_block hblk
 have hcf := blk_at hblk 0 rfl
 clear hblk
 go_enter Tryz.func70,Tryz.ntmps70
 go_wp2_with fail
 go_ret
 exact ⟨_,rfl,own_lit1 w _ _ _ (Nat.le_refl _),(Below.refl _ _).alloc (Nat.le_refl _) _⟩
set_option maxRecDepth 100000 in
theorem full_var {w : World} {bt : Nat} {pos num : Int} {name : ByteArray} {nv kv : Value} (hblk : w.heap[bt]? = some (.cells #[.string f_var,.int .i64 pos,.int .i64 num,.string name,nv,kv] 205 (0,0))) : FullNow w (.pointer (some ⟨bt,0,none⟩)) [name] := by
 have hlt := lt_of_block hblk
 have hcf := blk_at hblk 0 rfl
 have hcn := blk_at hblk 3 rfl
 clear hblk
 go_enter Tryz.func70,Tryz.ntmps70
 go_wp2_with fail
 go_ret
 exact ⟨_,rfl,own_lit1 w _ _ _ (Nat.le_refl _),(Below.refl _ _).alloc (Nat.le_refl _) _⟩
def wd (c : T) : List ByteArray := (fl (fu c)).map wt
abbrev pO : ByteArray := ⟨#[40]⟩
abbrev pC : ByteArray := ⟨#[41]⟩
theorem wt_of {k : Nat} (h : 3 <= k) : wt (Tk.of k) = txt k := wt_txt h
theorem wt_nm (x : ByteArray) : wt (nmTk x) = x := rfl
theorem wt_nu (n : Nat) : wt (nuTk n) = dec n := rfl
theorem wt_names (xs : List ByteArray) : (xs.map nmTk).map wt = xs := by
 rw [List.map_map]
 have : (wt ∘ nmTk) = id := funext wt_nm
 rw [this,List.map_id]
theorem fu_eq (b k s n : Nat) (xs : List ByteArray) (kids : List T) : fu (.nd b k s n xs kids) = .nd (fb k) k s n xs (fus kids) := rfl
theorem wd_body {b k s n : Nat} {xs : List ByteArray} {kids : List T} (hk : fb k = 1) : wd (.nd b k s n xs kids) = [pO] ++ ((pre k s n xs).map wt ++ ((flk k s 0 (fus kids)).map wt ++ ((post k).map wt ++ [pC]))) := by
 unfold wd
 rw [fu_eq,fl,hk]
 simp only [List.replicate_one,List.map_append,List.map_cons,List.map_nil]
 rfl
theorem flk_wd0 (k s : Nat) (a : T) (r : List T) : (flk k s 0 (fus (a :: r))).map wt = wd a ++ (flk k s 1 (fus r)).map wt := by
 rw [fus,flk]
 simp only [sep,List.nil_append,List.map_append]
 rfl
theorem flk_wd1 (k s i : Nat) (a : T) (r : List T) : (flk k s (i + 1) (fus (a :: r))).map wt = (sep k s (i + 1)).map wt ++ (wd a ++ (flk k s (i + 2) (fus r)).map wt) := by
 rw [fus,flk]
 simp only [List.map_append]
 rfl
theorem flk_wdn (k s i : Nat) : (flk k s i (fus [])).map wt = [] := rfl
theorem jn2 (s : ByteArray) (ss : List ByteArray) (x : List ByteArray) (xs : List (List ByteArray)) : jn (s :: ss) (x :: xs) = (if s.size = 0 then [] else [s]) ++ (x ++ jn ss xs) := rfl
theorem jn0 (ss : List ByteArray) : jn ss [] = [] := by cases ss <;> rfl
theorem if_sz {s : ByteArray} {n : Nat} (h : s.size = n + 1) : (if s.size = 0 then ([] : List ByteArray) else [s]) = [s] := if_neg (by omega)
theorem if_sz0 : (if (⟨#[]⟩ : ByteArray).size = 0 then ([] : List ByteArray) else [⟨#[]⟩]) = [] := rfl
theorem wd_neg {b s n : Nat} {xs : List ByteArray} {a : T} : wd (.nd b 13 s n xs [a]) = [pO] ++ jn [⟨#[45]⟩,⟨#[]⟩] [wd a] ++ [pC] := by
 rw [wd_body rfl,flk_wd0,flk_wdn,jn2,jn0];simp [pre,post];rfl
theorem wd_not {b s n : Nat} {xs : List ByteArray} {a : T} : wd (.nd b 14 s n xs [a]) = [pO] ++ jn [⟨#[110,111,116]⟩,⟨#[]⟩,⟨#[]⟩,⟨#[]⟩] [wd a] ++ [pC] := by
 rw [wd_body rfl,flk_wd0,flk_wdn,jn2,jn0];simp [pre,post];rfl
theorem wd_print {b s n : Nat} {xs : List ByteArray} {a : T} : wd (.nd b 21 s n xs [a]) = [pO] ++ jn [⟨#[112,114,105,110,116]⟩,⟨#[]⟩,⟨#[]⟩,⟨#[]⟩] [wd a] ++ [pC] := by
 rw [wd_body rfl,flk_wd0,flk_wdn,jn2,jn0];simp [pre,post];rfl
theorem wd_len {b s n : Nat} {xs : List ByteArray} {a : T} : wd (.nd b 22 s n xs [a]) = [pO] ++ jn [⟨#[108,101,110]⟩,⟨#[]⟩,⟨#[]⟩,⟨#[]⟩] [wd a] ++ [pC] := by
 rw [wd_body rfl,flk_wd0,flk_wdn,jn2,jn0];simp [pre,post];rfl
theorem wd_array {b s n : Nat} {xs : List ByteArray} {a c : T} : wd (.nd b 23 s n xs [a,c]) = [pO] ++ jn [⟨#[97,114,114,97,121]⟩,⟨#[]⟩,⟨#[]⟩,⟨#[]⟩] [wd a,wd c] ++ [pC] := by
 rw [wd_body rfl,flk_wd0,flk_wd1,flk_wdn,jn2,jn2,jn0,if_sz0];simp [pre,post,sep];rfl
theorem wd_put {b s n : Nat} {xs : List ByteArray} {a c d : T} : wd (.nd b 24 s n xs [a,c,d]) = [pO] ++ jn [⟨#[112,117,116]⟩,⟨#[]⟩,⟨#[]⟩,⟨#[]⟩] [wd a,wd c,wd d] ++ [pC] := by
 rw [wd_body rfl,flk_wd0,flk_wd1,flk_wd1,flk_wdn,jn2,jn2,jn2,jn0,if_sz0];simp [pre,post,sep];rfl
theorem nameK_sz {s : Nat} (h : 3 <= s) (h2 : s < 35) : 0 < (nameK s).size := by
 have : ∀ k : Fin 35,3 <= k.val -> 0 < (nameK k.val).size := by decide
 exact this ⟨s,h2⟩ h
theorem wd_op {b k s n : Nat} {xs : List ByteArray} {a c : T} (hk : k = 15 \/ k = 16 \/ k = 17) (h3 : 3 <= s) (h35 : s < 35) : wd (.nd b k s n xs [a,c]) = [pO] ++ jn [⟨#[]⟩,nameK s,⟨#[]⟩] [wd a,wd c] ++ [pC] := by
 have hsz := nameK_sz h3 h35
 have hsep : (sep k s 1).map wt = [nameK s] := by
  have : sep k s 1 = [Tk.of s] := by rcases hk with rfl | rfl | rfl <;> rfl
  rw [this,List.map_singleton,wt_of h3,nameK_txt h3]
 have hpre : pre k s n xs = [] := by rcases hk with rfl | rfl | rfl <;> rfl
 have hpost : post k = [] := by rcases hk with rfl | rfl | rfl <;> rfl
 rw [wd_body (by rcases hk with rfl | rfl | rfl <;> rfl),flk_wd0,flk_wd1,flk_wdn,jn2,jn2,jn0,if_sz0,if_neg (by omega),hsep,hpre,hpost]
 simp
theorem wd_seq {b s n : Nat} {xs : List ByteArray} {a c : T} : wd (.nd b 18 s n xs [a,c]) = [pO] ++ jn [⟨#[]⟩,⟨#[59]⟩,⟨#[]⟩] [wd a,wd c] ++ [pC] := by
 rw [wd_body rfl,flk_wd0,flk_wd1,flk_wdn,jn2,jn2,jn0,if_sz0];simp [pre,post,sep];rfl
theorem wd_if {b s n : Nat} {xs : List ByteArray} {a c d : T} : wd (.nd b 11 s n xs [a,c,d]) = [pO] ++ jn [⟨#[105,102]⟩,⟨#[116,104,101,110]⟩,⟨#[101,108,115,101]⟩,⟨#[]⟩] [wd a,wd c,wd d] ++ [pC] := by
 rw [wd_body rfl,flk_wd0,flk_wd1,flk_wd1,flk_wdn,jn2,jn2,jn2,jn0];simp [pre,post,sep];rfl
theorem wd_get {b s n : Nat} {xs : List ByteArray} {a c : T} : wd (.nd b 20 s n xs [a,c]) = [pO] ++ jn [⟨#[]⟩,⟨#[46,40]⟩,⟨#[41]⟩] [wd a,wd c] ++ [pC,pC] := by
 rw [wd_body rfl,flk_wd0,flk_wd1,flk_wdn,jn2,jn2,jn0,if_sz0];simp [pre,post,sep];rfl
theorem wd_tuple {b s n : Nat} {xs : List ByteArray} {kids : List T} (h2 : 2 <= kids.length) (h6 : kids.length <= 6) : wd (.nd b 7 s n xs kids) = [pO] ++ jn [⟨#[]⟩,⟨#[44]⟩,⟨#[44]⟩,⟨#[44]⟩,⟨#[44]⟩,⟨#[44]⟩,⟨#[]⟩] (kids.map wd) ++ [pC] := by
 have hs : ∀ i,(sep 7 s (i + 1)).map wt = [⟨#[44]⟩] := fun i => rfl
 have e : (if (⟨#[44]⟩ : ByteArray).size = 0 then ([] : List ByteArray) else [⟨#[44]⟩]) = [⟨#[44]⟩] := rfl
 match kids,h2,h6 with
 | [a,c],_,_ => rw [wd_body rfl];simp only [List.map_cons,List.map_nil,flk_wd0,flk_wd1,flk_wdn,jn2,jn0,if_sz0,hs,e,pre,post];simp
 | [a,c,d],_,_ => rw [wd_body rfl];simp only [List.map_cons,List.map_nil,flk_wd0,flk_wd1,flk_wdn,jn2,jn0,if_sz0,hs,e,pre,post];simp
 | [a,c,d,f],_,_ => rw [wd_body rfl];simp only [List.map_cons,List.map_nil,flk_wd0,flk_wd1,flk_wdn,jn2,jn0,if_sz0,hs,e,pre,post];simp
 | [a,c,d,f,g],_,_ => rw [wd_body rfl];simp only [List.map_cons,List.map_nil,flk_wd0,flk_wd1,flk_wdn,jn2,jn0,if_sz0,hs,e,pre,post];simp
 | [a,c,d,f,g,h],_,_ => rw [wd_body rfl];simp only [List.map_cons,List.map_nil,flk_wd0,flk_wd1,flk_wdn,jn2,jn0,if_sz0,hs,e,pre,post];simp
theorem wd_call {b s n : Nat} {xs : List ByteArray} {kids : List T} (h2 : 2 <= kids.length) (h5 : kids.length <= 5) : wd (.nd b 19 s n xs kids) = [pO] ++ jn [⟨#[]⟩,⟨#[]⟩,⟨#[]⟩,⟨#[]⟩,⟨#[]⟩,⟨#[]⟩] (kids.map wd) ++ [pC] := by
 have hs : ∀ i,(sep 19 s (i + 1)).map wt = [] := fun i => rfl
 match kids,h2,h5 with
 | [a,c],_,_ => rw [wd_body rfl];simp only [List.map_cons,List.map_nil,flk_wd0,flk_wd1,flk_wdn,jn2,jn0,if_sz0,hs,pre,post];simp
 | [a,c,d],_,_ => rw [wd_body rfl];simp only [List.map_cons,List.map_nil,flk_wd0,flk_wd1,flk_wdn,jn2,jn0,if_sz0,hs,pre,post];simp
 | [a,c,d,f],_,_ => rw [wd_body rfl];simp only [List.map_cons,List.map_nil,flk_wd0,flk_wd1,flk_wdn,jn2,jn0,if_sz0,hs,pre,post];simp
 | [a,c,d,f,g],_,_ => rw [wd_body rfl];simp only [List.map_cons,List.map_nil,flk_wd0,flk_wd1,flk_wdn,jn2,jn0,if_sz0,hs,pre,post];simp
theorem wd_fun {b s n : Nat} {xs : List ByteArray} {a : T} : wd (.nd b 12 s n xs [a]) = ([pO,⟨#[102,117,110]⟩] ++ xs) ++ jn [⟨#[45,62]⟩,⟨#[]⟩] [wd a] ++ [pC] := by
 have hp : (pre 12 s n xs).map wt = [⟨#[102,117,110]⟩] ++ (xs ++ [⟨#[45,62]⟩]) := by
  show (Tk.of 9 :: (xs.map nmTk ++ [Tk.of 22])).map wt = _
  rw [List.map_cons,List.map_append,wt_names];rfl
 rw [wd_body rfl,flk_wd0,flk_wdn,jn2,jn0,hp];simp [post];rfl
theorem wd_let {b s n : Nat} {x : ByteArray} {a c : T} : wd (.nd b 8 s n [x] [a,c]) = [pO,⟨#[108,101,116]⟩,x] ++ jn [⟨#[61]⟩,⟨#[105,110]⟩,⟨#[]⟩] [wd a,wd c] ++ [pC] := by
 have e1 : (if (⟨#[61]⟩ : ByteArray).size = 0 then ([] : List ByteArray) else [⟨#[61]⟩]) = [⟨#[61]⟩] := rfl
 have e2 : (if (⟨#[105,110]⟩ : ByteArray).size = 0 then ([] : List ByteArray) else [⟨#[105,110]⟩]) = [⟨#[105,110]⟩] := rfl
 have e3 : (sep 8 s (0 + 1)).map wt = [⟨#[105,110]⟩] := rfl
 have e4 : (pre 8 s n [x]).map wt = [⟨#[108,101,116]⟩,x,⟨#[61]⟩] := rfl
 rw [wd_body rfl,flk_wd0,flk_wd1,flk_wdn,jn2,jn2,jn0,e1,e2,e3,e4]
 simp [post]
theorem wd_rec {b s n : Nat} {xs : List ByteArray} {a c : T} (hx : 1 <= xs.length) : wd (.nd b 9 s n xs [a,c]) = ([pO,⟨#[108,101,116]⟩,⟨#[114,101,99]⟩,xs.headD f_0] ++ xs.tail) ++ jn [⟨#[61]⟩,⟨#[105,110]⟩,⟨#[]⟩] [wd a,wd c] ++ [pC] := by
 have hp : (pre 9 s n xs).map wt = [⟨#[108,101,116]⟩,⟨#[114,101,99]⟩] ++ (xs ++ [⟨#[61]⟩]) := by
  show (Tk.of 3 :: Tk.of 4 :: (xs.map nmTk ++ [Tk.of 27])).map wt = _
  rw [List.map_cons,List.map_cons,List.map_append,wt_names];rfl
 have hxs : xs = xs.headD f_0 :: xs.tail := by cases xs with | nil => simp at hx | cons x r => rfl
 rw [wd_body rfl,flk_wd0,flk_wd1,flk_wdn,jn2,jn2,jn0,hp]
 have e1 : (if (⟨#[61]⟩ : ByteArray).size = 0 then ([] : List ByteArray) else [⟨#[61]⟩]) = [⟨#[61]⟩] := rfl
 have e2 : (if (⟨#[105,110]⟩ : ByteArray).size = 0 then ([] : List ByteArray) else [⟨#[105,110]⟩]) = [⟨#[105,110]⟩] := rfl
 have e3 : (sep 9 s (0 + 1)).map wt = [⟨#[105,110]⟩] := rfl
 rw [e1,e2,e3]
 conv => lhs;rw [hxs]
 simp [post]
theorem wd_pair {b s n s1 n1 b1 : Nat} {xs ys : List ByteArray} {a c : T} : wd (.nd b 10 s n ys [.nd b1 25 s1 n1 xs [],a,c]) = ([pO,⟨#[108,101,116]⟩,⟨#[40]⟩] ++ (rowT xs ++ [⟨#[41]⟩])) ++ jn [⟨#[61]⟩,⟨#[105,110]⟩,⟨#[]⟩] [wd a,wd c] ++ [pC] := by
 have hp : wd (.nd b1 25 s1 n1 xs []) = [pO] ++ (rowT xs ++ [pC]) := by
  rw [wd_body rfl,rowT_commas]
  show [pO] ++ ((commas xs).map wt ++ ([] ++ ([] ++ [pC]))) = _
  simp
 have e1 : (if (⟨#[61]⟩ : ByteArray).size = 0 then ([] : List ByteArray) else [⟨#[61]⟩]) = [⟨#[61]⟩] := rfl
 have e2 : (if (⟨#[105,110]⟩ : ByteArray).size = 0 then ([] : List ByteArray) else [⟨#[105,110]⟩]) = [⟨#[105,110]⟩] := rfl
 have e3 : (sep 10 s (0 + 1)).map wt = [⟨#[61]⟩] := rfl
 have e4 : (sep 10 s (1 + 1)).map wt = [⟨#[105,110]⟩] := rfl
 have e5 : (pre 10 s n ys).map wt = [⟨#[108,101,116]⟩] := rfl
 rw [wd_body rfl,flk_wd0,flk_wd1,flk_wd1,flk_wdn,jn2,jn2,jn0,hp,e1,e2,e3,e4,e5]
 simp [post]
theorem wd_num {b s n : Nat} {xs : List ByteArray} : wd (.nd b 1 s n xs []) = [dec n] := rfl
theorem wd_true {b s n : Nat} {xs : List ByteArray} : wd (.nd b 2 s n xs []) = [⟨#[116,114,117,101]⟩] := rfl
theorem wd_false {b s n : Nat} {xs : List ByteArray} : wd (.nd b 3 s n xs []) = [⟨#[102,97,108,115,101]⟩] := rfl
theorem wd_read {b s n : Nat} {xs : List ByteArray} : wd (.nd b 4 s n xs []) = [⟨#[114,101,97,100]⟩] := rfl
theorem wd_var {b s n : Nat} {x : ByteArray} : wd (.nd b 5 s n [x] []) = [x] := rfl
theorem wd_unit {b s n : Nat} {xs : List ByteArray} : wd (.nd b 6 s n xs []) = [pO,pC] := rfl
mutual
theorem fine_fu : ∀ c : T,fine c -> fine (fu c)
 | .nd _ k s n xs kids,h => by
   rw [fine] at h
   rw [fu,fine,fus_len]
   exact ⟨h.1,fines_fus kids h.2⟩
theorem fines_fus : ∀ l : List T,fines l -> fines (fus l)
 | [],_ => trivial
 | c :: r,h => ⟨fine_fu c h.1,fines_fus r h.2⟩
end
theorem wd_pos (c : T) (h : fine c) : 1 <= (wd c).length := by
 unfold wd
 rw [List.length_map]
 have hf : fine (fu c) := by
  have : ∀ c : T,fine c -> fine (fu c) := by
   intro c hc
   exact fine_fu c hc
  exact this c h
 have := (fl_bal (fu c) hf).ne
 cases hx : fl (fu c) with
 | nil => exact absurd hx this
 | cons t r => simp
mutual
def nums : T -> Prop
 | .nd _ k _ n _ kids => (k = 1 -> n <= 4611686018427387903) /\ numss kids
def numss : List T -> Prop
 | [] => True
 | c :: r => nums c /\ numss r
end
theorem numss_mem : ∀ {l : List T},numss l -> ∀ c ∈ l,nums c
 | [],_,c,hc => by simp at hc
 | d :: r,h,c,hc => by
   rcases List.mem_cons.1 hc with rfl | hc
   ·exact h.1
   ·exact numss_mem h.2 c hc
theorem fines_mem : ∀ {l : List T},fines l -> ∀ c ∈ l,fine c
 | [],_,c,hc => by simp at hc
 | d :: r,h,c,hc => by
   rcases List.mem_cons.1 hc with rfl | hc
   ·exact h.1
   ·exact fines_mem h.2 c hc
theorem patss_mem {k : Nat} : ∀ {l : List T} {i : Nat},patss k i l -> ∀ c ∈ l,∃ j,i <= j /\ j < i + l.length /\ patOk k j c /\ pats c
 | [],_,_,c,hc => by simp at hc
 | d :: r,i,h,c,hc => by
   rcases List.mem_cons.1 hc with rfl | hc
   ·exact ⟨i,Nat.le_refl _,by simp,h.1,h.2.1⟩
   ·obtain ⟨j,h1,h2,h3⟩ := patss_mem h.2.2 c hc
    exact ⟨j,by omega,by simp;omega,h3⟩
def FullC (c : T) : Prop := ∀ (w : World) (B n : Nat) (v : Value) (g : G),HT w B n v g -> er g = gt c -> n <= w.heap.size -> FullNow w v (wd c)
theorem FullC.ok {c : T} (h : FullC c) {w : World} {B n : Nat} {v : Value} {g : G} (ht : HT w B n v g) (he : er g = gt c) (hn : n <= w.heap.size) : FullOK w v (wd c) := fun W hW =>
 h W B n v g (ht.keep (belowHeld (hW.mono hn) B)) he (Nat.le_trans hn hW.size)
theorem fullAll {w : World} {B n : Nat} (hn : n <= w.heap.size) : ∀ (kids : List T) (ps : List Value) (gs : List G),HTs w B n ps gs -> ers gs = gts kids -> (∀ c ∈ kids,FullC c /\ fine c) -> FullAll w ps (kids.map wd) /\ ps.length = kids.length
 | [],ps,gs,h,he,_ => by
   cases h with
   | nil => exact ⟨trivial,rfl⟩
   | cons => simp [ers,gts] at he
 | c :: r,ps,gs,h,he,hc => by
   cases h with
   | nil => simp [ers,gts] at he
   | cons h1 h2 =>
     rw [ers,gts] at he
     injection he with e1 e2
     obtain ⟨i1,i2⟩ := fullAll hn r _ _ h2 e2 (fun d hd => hc d (by simp [hd]))
     obtain ⟨pb,hpb,_,_⟩ := h1.ptr
     refine ⟨⟨⟨(hc c (by simp)).1.ok h1 e1 hn,wd_pos c (hc c (by simp)).2,pb,hpb⟩,i1⟩,by simp [i2]⟩
theorem flk_ge (k s : Nat) : ∀ {l : List T} {c : T} (i : Nat),c ∈ l -> (fl (fu c)).length <= (flk k s i (fus l)).length
 | [],c,i,h => by simp at h
 | d :: r,c,i,h => by
   rw [fus,flk,List.length_append,List.length_append]
   rcases List.mem_cons.1 h with rfl | h
   ·omega
   ·have := flk_ge k s (i + 1) h;omega
theorem wd_kid {b k s n : Nat} {xs : List ByteArray} {kids : List T} {c : T} (h : c ∈ kids) : (wd c).length <= (wd (.nd b k s n xs kids)).length := by
 unfold wd
 rw [List.length_map,List.length_map,fu_eq,fl]
 have := flk_ge k s 0 h
 simp only [List.length_append]
 omega
theorem row_nil {w : World} {B n : Nat} {v : Value} {names : List ByteArray} (h : RowAt w B n v (names.map Value.string)) (hn : names = []) : ∃ a c,v = .slice a 0 c := by
 subst hn
 rcases h with ⟨_,a,c,h⟩ | ⟨g,off,cap,h,_⟩
 ·exact ⟨a,c,h⟩
 ·exact ⟨_,_,h⟩
theorem row_some {w : World} {B n : Nat} {v : Value} {names : List ByteArray} (h : RowAt w B n v (names.map Value.string)) (hn : 1 <= names.length) : ∃ g off cap,v = .slice (some ⟨g,off,none⟩) names.length cap /\ SRo w g off names /\ g < n /\ names.length <= cap := by
 obtain ⟨g,off,cap,h1,h2,h3,_⟩ := kids_row h (by simpa using hn)
 rw [List.length_map] at h1 h3
 subst h1
 exact ⟨g,off,cap,rfl,(sro_row h hn).1,h2,h3⟩
theorem full_any : ∀ (m : Nat) (c : T),SizeOf.sizeOf c <= m -> fine c -> pats c -> c.k ≠ 25 -> nums c -> (wd c).length <= 100000 -> FullC c := by
 intro m
 induction m with
 | zero => intro c h;cases c;simp at h
 | succ m ih =>
   intro c hs hf hpt h25 hnm hl
   cases c with
   | nd b k s n xs kids =>
     have hk25 : k ≠ 25 := h25
     rw [fine] at hf
     obtain ⟨ha,hfs⟩ := hf
     rw [pats] at hpt
     rw [nums] at hnm
     have hkid : ∀ c ∈ kids,c.k ≠ 25 -> FullC c /\ fine c := fun c hc c25 => by
      obtain ⟨j,_,_,_,j4⟩ := patss_mem hpt c hc
      have := List.sizeOf_lt_of_mem hc
      exact ⟨ih c (by simp at hs;omega) (fines_mem hfs c hc) j4 c25 (numss_mem hnm.2 c hc) (Nat.le_trans (wd_kid hc) hl),fines_mem hfs c hc⟩
     have hkid2 : k ≠ 10 -> ∀ c ∈ kids,FullC c /\ fine c := fun h10 c hc => by
      obtain ⟨j,_,_,j3,_⟩ := patss_mem hpt c hc
      exact hkid c hc (fun e => h10 (j3.1 e).1)
     intro w B n' v g ht he hn
     cases ht with
     | nd hB hb hblk hnv hkv hks =>
       rename_i bt form name pos num names kidsG nv kv ps
       rw [er,gt] at he
       have kf : k ≠ 10 -> ers kidsG = gts kids -> FullAll w ps (kids.map wd) /\ ps.length = kids.length := fun h10 e => fullAll hn kids ps kidsG hks e (hkid2 h10)
       match k,hk25,hnm,ha with
       | 0,_,_,ha => simp [arB] at ha
       | 1,_,hnm,ha =>
         simp [arB] at ha
         obtain ⟨rfl,rfl⟩ := ha
         have he' : G.nd form 0 num name names (ers kidsG) = .nd f_num 0 n f_0 [] [] := he
         injection he' with e1 _ e3 e4 e5 e6
         subst e1 e3
         exact full_num hblk (hnm.1 rfl)
       | 2,_,_,ha =>
         simp [arB] at ha
         obtain ⟨rfl,rfl⟩ := ha
         have he' : G.nd form 0 num name names (ers kidsG) = .nd f_bool 0 1 f_0 [] [] := he
         injection he' with e1 _ e3 e4 e5 e6
         subst e1 e3
         exact full_true hblk
       | 3,_,_,ha =>
         simp [arB] at ha
         obtain ⟨rfl,rfl⟩ := ha
         have he' : G.nd form 0 num name names (ers kidsG) = .nd f_bool 0 0 f_0 [] [] := he
         injection he' with e1 _ e3 e4 e5 e6
         subst e1 e3
         exact full_false hblk
       | 4,_,_,ha =>
         simp [arB] at ha
         obtain ⟨rfl,rfl⟩ := ha
         have he' : G.nd form 0 num name names (ers kidsG) = .nd f_read 0 0 f_0 [] [] := he
         injection he' with e1 _ e3 e4 e5 e6
         subst e1
         exact full_read hblk
       | 5,_,_,ha =>
         simp [arB] at ha
         obtain ⟨rfl,hx⟩ := ha
         match xs,hx with
         | [x],_ =>
           have he' : G.nd form 0 num name names (ers kidsG) = .nd f_var 0 0 x [] [] := he
           injection he' with e1 _ e3 e4 e5 e6
           subst e1 e4
           exact full_var hblk
       | 6,_,_,ha =>
         simp [arB] at ha
         obtain ⟨rfl,rfl⟩ := ha
         have he' : G.nd form 0 num name names (ers kidsG) = .nd f_unit 0 0 f_0 [] [] := he
         injection he' with e1 _ e3 e4 e5 e6
         subst e1
         exact full_unit hblk
       | 7,_,_,ha =>
         simp [arB] at ha
         have he' : G.nd form 0 num name names (ers kidsG) = .nd f_tuple 0 0 f_0 [] (gts kids) := he
         injection he' with e1 _ e3 e4 e5 e6
         obtain ⟨q1,q2⟩ := kf (by decide) e6
         obtain ⟨na,nc,rfl⟩ := row_nil hnv e5
         subst e1 e3 e4
         have hw := wd_tuple (b := b) (s := s) (n := n) (xs := xs) ha.1.1 ha.1.2
         rw [hw] at hl ⊢
         exact full_l .tuple hblk hkv hn q1 (by omega) (by omega) hl
       | 8,_,_,ha =>
         simp [arB] at ha
         match kids,ha.1,xs,ha.2,hl,kf,he with
         | [a,c],_,[x],_,hl,kf,he =>
           have he' : G.nd form 0 num name names (ers kidsG) = .nd f_let 0 0 x [] (gts [a,c]) := he
           injection he' with e1 _ e3 e4 e5 e6
           obtain ⟨q1,q2⟩ := kf (by decide) e6
           obtain ⟨na,nc,rfl⟩ := row_nil hnv e5
           subst e1 e3 e4
           rw [wd_let] at hl ⊢
           exact full_m .lt hblk hkv hn q1 (by rw [q2];simp) (by rw [q2];simp) hl
       | 9,_,_,ha =>
         simp [arB] at ha
         match kids,ha.1.1,hl,kf,he with
         | [a,c],_,hl,kf,he =>
           have he' : G.nd form 0 num name names (ers kidsG) = .nd f_rec 0 0 (xs.headD f_0) xs.tail (gts [a,c]) := he
           injection he' with e1 _ e3 e4 e5 e6
           obtain ⟨q1,q2⟩ := kf (by decide) e6
           subst e1 e3 e4 e5
           have hx1 : 1 <= xs.tail.length := by rw [List.length_tail];omega
           have hx2 : xs.tail.length <= 1000 := by rw [List.length_tail];omega
           obtain ⟨ng,noff,ncap,rfl,r1,r2,r3⟩ := row_some hnv hx1
           rw [wd_rec (by omega)] at hl ⊢
           exact full_m (.rc r1 (by omega) hx1 hx2 r3) hblk hkv hn q1 (by rw [q2];simp) (by rw [q2];simp) hl
       | 10,_,_,ha =>
         simp [arB] at ha
         match kids,ha.1,hl,he,hkid,hpt,hfs with
         | [q,a,c],_,hl,he,hkid,hpt,hfs =>
           obtain ⟨p1,_,p2,_,p3,_⟩ := hpt
           have hq : q.k = 25 := p1.2 ⟨rfl,rfl⟩
           have a25 : a.k ≠ 25 := fun e => by have := (p2.1 e).2;omega
           have c25 : c.k ≠ 25 := fun e => by have := (p3.1 e).2;omega
           cases q with
           | nd bq kq sq nq ys kq' =>
             have hkq : kq = 25 := hq
             subst hkq
             have hfq := hfs.1
             rw [fine] at hfq
             have haq := hfq.1
             simp [arB] at haq
             obtain ⟨⟨rfl,hy2⟩,hy6⟩ := haq
             have he' : G.nd form 0 num name names (ers kidsG) = .nd f_pair 0 0 f_0 ys (gts [a,c]) := he
             injection he' with e1 _ e3 e4 e5 e6
             obtain ⟨q1,q2⟩ := fullAll hn [a,c] ps kidsG hks e6 (fun d hd => by
              rcases List.mem_cons.1 hd with rfl | hd
              ·exact hkid _ (by simp) a25
              ·simp at hd;subst hd;exact hkid _ (by simp) c25)
             subst e1 e3 e4 e5
             obtain ⟨ng,noff,ncap,rfl,r1,r2,r3⟩ := row_some hnv (by omega)
             rw [wd_pair] at hl ⊢
             exact full_m (.pr r1 (by omega) (by omega) (by omega) r3) hblk hkv hn q1 (by rw [q2];simp) (by rw [q2];simp) hl
       | 11,_,_,ha =>
         simp [arB] at ha
         match kids,ha.1,hl,kf,he with
         | [a,c,d],_,hl,kf,he =>
           have he' : G.nd form 0 num name names (ers kidsG) = .nd f_if 0 0 f_0 [] (gts [a,c,d]) := he
           injection he' with e1 _ e3 e4 e5 e6
           obtain ⟨q1,q2⟩ := kf (by decide) e6
           obtain ⟨na,nc,rfl⟩ := row_nil hnv e5
           subst e1 e3 e4
           rw [wd_if] at hl ⊢
           exact full_l .if hblk hkv hn q1 (by rw [q2];simp) (by rw [q2];simp) hl
       | 12,_,_,ha =>
         simp [arB] at ha
         match kids,ha.1.1,hl,kf,he with
         | [a],_,hl,kf,he =>
           have he' : G.nd form 0 num name names (ers kidsG) = .nd f_fun 0 0 f_0 xs (gts [a]) := he
           injection he' with e1 _ e3 e4 e5 e6
           obtain ⟨q1,q2⟩ := kf (by decide) e6
           subst e1 e3 e4 e5
           obtain ⟨ng,noff,ncap,rfl,r1,r2,r3⟩ := row_some hnv (by omega)
           rw [wd_fun] at hl ⊢
           exact full_m (.fn r1 (by omega) (by omega) (by omega) r3) hblk hkv hn q1 (by rw [q2];simp) (by rw [q2];simp) hl
       | 13,_,_,ha =>
         simp [arB] at ha
         match kids,ha.1,hl,kf,he with
         | [a],_,hl,kf,he =>
           have he' : G.nd form 0 num name names (ers kidsG) = .nd f_neg 0 0 f_0 [] (gts [a]) := he
           injection he' with e1 _ e3 e4 e5 e6
           obtain ⟨q1,q2⟩ := kf (by decide) e6
           obtain ⟨na,nc,rfl⟩ := row_nil hnv e5
           subst e1 e3 e4
           rw [wd_neg] at hl ⊢
           exact full_k .neg hblk hkv hn q1 (by rw [q2];simp) (by rw [q2];simp) hl
       | 14,_,_,ha =>
         simp [arB] at ha
         match kids,ha.1,hl,kf,he with
         | [a],_,hl,kf,he =>
           have he' : G.nd form 0 num name names (ers kidsG) = .nd f_not 0 0 f_0 [] (gts [a]) := he
           injection he' with e1 _ e3 e4 e5 e6
           obtain ⟨q1,q2⟩ := kf (by decide) e6
           obtain ⟨na,nc,rfl⟩ := row_nil hnv e5
           subst e1 e3 e4
           rw [wd_not] at hl ⊢
           exact full_k .not hblk hkv hn q1 (by rw [q2];simp) (by rw [q2];simp) hl
       | 15,_,_,ha =>
         simp [arB] at ha
         match kids,ha.1.1,hl,kf,he with
         | [a,c],_,hl,kf,he =>
           have he' : G.nd form 0 num name names (ers kidsG) = .nd f_op 0 0 (nameK s) [] (gts [a,c]) := he
           injection he' with e1 _ e3 e4 e5 e6
           obtain ⟨q1,q2⟩ := kf (by decide) e6
           obtain ⟨na,nc,rfl⟩ := row_nil hnv e5
           subst e1 e3 e4
           rw [wd_op (by omega) (by omega) (by omega)] at hl ⊢
           exact full_l .op hblk hkv hn q1 (by rw [q2];simp) (by rw [q2];simp) hl
       | 16,_,_,ha =>
         simp [arB] at ha
         match kids,ha.1.1,hl,kf,he with
         | [a,c],_,hl,kf,he =>
           have he' : G.nd form 0 num name names (ers kidsG) = .nd f_op 0 0 (nameK s) [] (gts [a,c]) := he
           injection he' with e1 _ e3 e4 e5 e6
           obtain ⟨q1,q2⟩ := kf (by decide) e6
           obtain ⟨na,nc,rfl⟩ := row_nil hnv e5
           subst e1 e3 e4
           rw [wd_op (by omega) (by omega) (by omega)] at hl ⊢
           exact full_l .op hblk hkv hn q1 (by rw [q2];simp) (by rw [q2];simp) hl
       | 17,_,_,ha =>
         simp [arB] at ha
         match kids,ha.1.1,hl,kf,he with
         | [a,c],_,hl,kf,he =>
           have he' : G.nd form 0 num name names (ers kidsG) = .nd f_op 0 0 (nameK s) [] (gts [a,c]) := he
           injection he' with e1 _ e3 e4 e5 e6
           obtain ⟨q1,q2⟩ := kf (by decide) e6
           obtain ⟨na,nc,rfl⟩ := row_nil hnv e5
           subst e1 e3 e4
           rw [wd_op (by omega) (by omega) (by omega)] at hl ⊢
           exact full_l .op hblk hkv hn q1 (by rw [q2];simp) (by rw [q2];simp) hl
       | 18,_,_,ha =>
         simp [arB] at ha
         match kids,ha.1,hl,kf,he with
         | [a,c],_,hl,kf,he =>
           have he' : G.nd form 0 num name names (ers kidsG) = .nd f_seq 0 0 f_0 [] (gts [a,c]) := he
           injection he' with e1 _ e3 e4 e5 e6
           obtain ⟨q1,q2⟩ := kf (by decide) e6
           obtain ⟨na,nc,rfl⟩ := row_nil hnv e5
           subst e1 e3 e4
           rw [wd_seq] at hl ⊢
           exact full_l .seq hblk hkv hn q1 (by rw [q2];simp) (by rw [q2];simp) hl
       | 19,_,_,ha =>
         simp [arB] at ha
         have he' : G.nd form 0 num name names (ers kidsG) = .nd f_call 0 0 f_0 [] (gts kids) := he
         injection he' with e1 _ e3 e4 e5 e6
         obtain ⟨q1,q2⟩ := kf (by decide) e6
         obtain ⟨na,nc,rfl⟩ := row_nil hnv e5
         subst e1 e3 e4
         have hw := wd_call (b := b) (s := s) (n := n) (xs := xs) ha.1.1 ha.1.2
         rw [hw] at hl ⊢
         exact full_l .call hblk hkv hn q1 (by omega) (by omega) hl
       | 20,_,_,ha =>
         simp [arB] at ha
         match kids,ha.1,hl,kf,he with
         | [a,c],_,hl,kf,he =>
           have he' : G.nd form 0 num name names (ers kidsG) = .nd f_get 0 0 f_0 [] (gts [a,c]) := he
           injection he' with e1 _ e3 e4 e5 e6
           obtain ⟨q1,q2⟩ := kf (by decide) e6
           obtain ⟨na,nc,rfl⟩ := row_nil hnv e5
           subst e1 e3 e4
           rw [wd_get] at hl ⊢
           exact full_l .get hblk hkv hn q1 (by rw [q2];simp) (by rw [q2];simp) hl
       | 21,_,_,ha =>
         simp [arB] at ha
         match kids,ha.1,hl,kf,he with
         | [a],_,hl,kf,he =>
           have he' : G.nd form 0 num name names (ers kidsG) = .nd (nameK 14) 0 0 f_0 [] (gts [a]) := he
           injection he' with e1 _ e3 e4 e5 e6
           obtain ⟨q1,q2⟩ := kf (by decide) e6
           obtain ⟨na,nc,rfl⟩ := row_nil hnv e5
           subst e1 e3 e4
           rw [wd_print] at hl ⊢
           exact full_k .print hblk hkv hn q1 (by rw [q2];simp) (by rw [q2];simp) hl
       | 22,_,_,ha =>
         simp [arB] at ha
         match kids,ha.1,hl,kf,he with
         | [a],_,hl,kf,he =>
           have he' : G.nd form 0 num name names (ers kidsG) = .nd (nameK 15) 0 0 f_0 [] (gts [a]) := he
           injection he' with e1 _ e3 e4 e5 e6
           obtain ⟨q1,q2⟩ := kf (by decide) e6
           obtain ⟨na,nc,rfl⟩ := row_nil hnv e5
           subst e1 e3 e4
           rw [wd_len] at hl ⊢
           exact full_k .len hblk hkv hn q1 (by rw [q2];simp) (by rw [q2];simp) hl
       | 23,_,_,ha =>
         simp [arB] at ha
         match kids,ha.1,hl,kf,he with
         | [a,c],_,hl,kf,he =>
           have he' : G.nd form 0 num name names (ers kidsG) = .nd (nameK 16) 0 0 f_0 [] (gts [a,c]) := he
           injection he' with e1 _ e3 e4 e5 e6
           obtain ⟨q1,q2⟩ := kf (by decide) e6
           obtain ⟨na,nc,rfl⟩ := row_nil hnv e5
           subst e1 e3 e4
           rw [wd_array] at hl ⊢
           exact full_k .array hblk hkv hn q1 (by rw [q2];simp) (by rw [q2];simp) hl
       | 24,_,_,ha =>
         simp [arB] at ha
         match kids,ha.1,hl,kf,he with
         | [a,c,d],_,hl,kf,he =>
           have he' : G.nd form 0 num name names (ers kidsG) = .nd (nameK 17) 0 0 f_0 [] (gts [a,c,d]) := he
           injection he' with e1 _ e3 e4 e5 e6
           obtain ⟨q1,q2⟩ := kf (by decide) e6
           obtain ⟨na,nc,rfl⟩ := row_nil hnv e5
           subst e1 e3 e4
           rw [wd_put] at hl ⊢
           exact full_k .put hblk hkv hn q1 (by rw [q2];simp) (by rw [q2];simp) hl
       | 25,h,_,_ => exact absurd rfl h
       | k + 26,_,_,ha => simp [arB] at ha
def tokOf (t : Tk) : Tok := ⟨t.k,t.n,0,wt t⟩
def endT : Tok := ⟨0,0,0,⟨#[]⟩⟩
def cn (t : Tk) : Prop := (t.k ≠ 1 -> t.n = 0) /\ (t.k ≠ 2 -> t.x = ⟨#[]⟩)
theorem tokOf_tk {t : Tk} (h : cn t) : (tokOf t).tk = t := by
 obtain ⟨h1,h2⟩ := h
 cases t with
 | mk k n x =>
   simp only [tokOf,Tok.tk] at *
   by_cases hk1 : k = 1
   ·subst hk1;have := h2 (by decide);subst this;simp
   ·have := h1 hk1;subst this
    by_cases hk2 : k = 2
    ·subst hk2;simp [wt]
    ·have := h2 hk2;subst this;simp [hk1,hk2]
theorem tks_tokOf {l : List Tk} (h : ∀ t ∈ l,cn t) : tks (l.map tokOf) = l := by
 unfold tks
 rw [List.map_map]
 induction l with
 | nil => rfl
 | cons t r ih =>
   rw [List.map_cons,ih (fun u hu => h u (by simp [hu]))]
   show (tokOf t).tk :: r = _
   rw [tokOf_tk (h t (by simp))]
theorem kName_wt {t : Tk} (h : gw t) : kName t.k (wt t) = nameK t.k := by
 by_cases h3 : 3 <= t.k
 ·rw [wt_txt h3];rfl
 ·have h0 := h.ne
  unfold nameK kName
  rw [if_neg h0,if_neg h0]
  by_cases h1 : t.k = 1
  ·rw [if_pos h1,if_pos h1]
  ·rw [if_neg h1,if_neg h1,if_pos (by omega),if_pos (by omega)]
theorem tokOf_gd {t : Tk} (h : gw t) : gd (tokOf t) := ⟨⟨kName_wt h,h.lt⟩,fun hk => ⟨h.num hk,h.le⟩⟩
theorem endT_ok : okTok endT := ⟨rfl,by decide⟩
theorem flat_get : ∀ (L : List Tok) (i j : Nat) (h : i < L.length),j < 3 -> (L.flatMap Tok.rcells)[i * 3 + j]? = (Tok.rcells L[i])[j]?
 | [],i,j,h,_ => by simp at h
 | t :: r,i,j,h,hj => by
   rw [List.flatMap_cons]
   have hl : (Tok.rcells t).length = 3 := rfl
   cases i with
   | zero => rw [List.getElem?_append_left (by rw [hl];omega)];simp
   | succ i =>
     rw [List.getElem?_append_right (by rw [hl];omega),hl,show (i + 1) * 3 + j - 3 = i * 3 + j by omega,flat_get r i j (by simpa using h) hj]
     rfl
theorem rw_own {w : World} {B g n cap : Nat} {L : List Tok} (h : w.ownsRow B 200 3 (.slice (some ⟨g,0,none⟩) n cap) n (L.flatMap Tok.rcells)) : RW w g 0 L := by
 have hl := h.1
 rw [rtoks_len] at hl
 intro i hi
 have hc : ∀ j,j < 3 -> w.cell? ⟨g,i * 3 + j,none⟩ = (Tok.rcells L[i])[j]? := fun j hj => by
  rw [h.cellAt (i * 3 + j) (by omega),flat_get L i j hi hj]
 refine ⟨?_,?_,?_⟩
 ·have := hc 0 (by omega);rw [show 0 + i * 3 = i * 3 + 0 by omega];exact this
 ·have := hc 1 (by omega);rw [show 0 + i * 3 + 1 = i * 3 + 1 by omega];exact this
 ·have := hc 2 (by omega);rw [show 0 + i * 3 + 2 = i * 3 + 2 by omega];exact this
set_option maxRecDepth 100000 in
theorem words_any (l : List Tk) (b cap n0 : Nat) (w : World) (hn0 : n0 = l.length) (hl : l.length <= 90000) (hc : l.length <= cap) (hb : b < w.heap.size) (hr : SR w b (l.map wt)) (hg : ∀ t ∈ l,gw t) :
 Calls Tryz.prog 122 #[.slice (some ⟨b,0,none⟩) n0 cap] w fun e w' => ∃ v,e = .returned v /\ w'.ownsRow w.heap.size 200 3 v (l.map tokOf ++ [endT]).length ((l.map tokOf ++ [endT]).flatMap Tok.rcells) /\ Below w.heap.size w w' := by
 subst hn0
 obtain ⟨i0,hi0,hz0,hz1,hz2⟩ := info_parts Tryz.info200
 have HR : Hid (SR w b (l.map wt)) := hr
 have HG : Hid (∀ t ∈ l,gw t) := hg
 clear hr hg
 go_enter Tryz.func122,Tryz.ntmps122
 go_wp2_with fail
 go_loopw [3,4] (fun v q wr => ∃ k : Nat,k <= l.length /\ q = .int .i64 k /\ wr.ownsRow w.heap.size 200 3 v k (((l.take k).map tokOf).flatMap Tok.rcells) /\ Below w.heap.size w wr) (fun _ q _ => l.length - (intOf q).toNat)
 case atStart => exact ⟨0,Nat.zero_le _,rfl,World.ownsRow_nil _ _ _ _,Below.refl _ _⟩
 case round =>
  obtain ⟨k,hk,rfl,hown,hbw⟩ := hrel
  have hsz := hbw.size
  by_cases hlt : k < l.length
  ·have c1 := (HR.out.below hbw hb) k (by simpa using hlt)
   rw [List.getElem_map] at c1
   have hgt := HG.out l[k] (by simp)
   have HT : Hid ((l.take (k + 1)).map tokOf = (l.take k).map tokOf ++ [⟨l[k].k,l[k].n,0,wt l[k]⟩]) := by
    show _ = _
    rw [List.take_succ_eq_append_getElem hlt,List.map_append];rfl
   have HKD : Hid (kindS (wt l[k]) = kName l[k].k (wt l[k])) := hgt.kind
   have hps := hgt.pos
   have hle := hgt.le
   obtain ⟨tx,htx⟩ : ∃ tx,wt l[k] = tx := ⟨_,rfl⟩
   obtain ⟨kk,hkk⟩ : ∃ kk,l[k].k = kk := ⟨_,rfl⟩
   obtain ⟨nn,hnn⟩ : ∃ nn,l[k].n = nn := ⟨_,rfl⟩
   rw [htx] at c1 HT HKD hps hle
   rw [hkk] at HT HKD
   rw [hnn] at HT
   clear hgt htx hkk hnn
   go_wp2_with (first
    | (go_at_call 111;refine (kind_any tx hps hle _).mono ?_;rw [HKD.out];rintro _ w1 ⟨rfl,hb1⟩;have hs1 := hb1.size;have c2 := (hb1.cell (p := ⟨b,k,none⟩) (by show b < _;omega)).trans c1)
    | (at_builtin;refine wpList_append_own _ rfl (.tmp 17) (.tmp 24) 109 rfl w.heap.size 200 i0 _ 3 40 Tryz.underlying109 hi0 hz0 hz1 hz2 rfl (by decide) _ _ _ rfl ((own_below hown hb1).alloc _) _ 1 1 (Tok.rcells ⟨kk,nn,0,tx⟩) rfl rfl (cells_new _ _ _ _ rfl) ?_ ?_ ?_ ?_ ?_;exact rtok_one _;(unfold maxLen;omega);omega;(simp;omega);intro v' w3 hown3 hg3 _;have hbw3 := below_app (hbw.trans (hb1.mono hsz)) (Nat.le_trans hsz hs1) _ hg3 (own_ge hown)))
   go_roundw
   case rel => exact ⟨k + 1,by omega,by go_num,by rw [HT.out,List.flatMap_append];simpa using hown3,hbw3⟩
   case measure => simp [intOf];omega
  ·have hkl : k = l.length := by omega
   have HL : Hid (l.take k = l) := by
    show _ = _
    rw [hkl,List.take_length]
   clear hkl
   rw [HL.out] at hown
   go_wp2_with (at_builtin;refine wpList_append_own _ rfl (.tmp 26) (.tmp 28) 109 rfl w.heap.size 200 i0 _ 3 40 Tryz.underlying109 hi0 hz0 hz1 hz2 rfl (by decide) _ _ _ rfl (hown.alloc _) _ 1 1 (Tok.rcells endT) rfl rfl (cells_new _ _ _ _ rfl) ?_ ?_ ?_ ?_ ?_;exact rtok_one _;(unfold maxLen;omega);omega;(simp;omega);intro v' w3 hown3 hg3 _;have hbw3 := below_app hbw hsz _ hg3 (own_ge hown))
   go_ret
   refine ⟨_,rfl,?_,hbw3⟩
   have hlen : (l.map tokOf ++ [endT]).length = k + 1 := by
    have := congrArg List.length HL.out
    rw [List.length_take] at this
    simp;omega
   rw [hlen,List.flatMap_append]
   simpa using hown3
end Go.Proofs.YtmkdoejpgkgpbaaGreatDoor
