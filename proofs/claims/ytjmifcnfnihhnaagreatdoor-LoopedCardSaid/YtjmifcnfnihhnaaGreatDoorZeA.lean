import Derived.Orders
import Derived.Deep.AppendSrc
import Derived.Deep.Upon
import Derived.Laws.BytesString
import Derived.Below
/- THE EVALUATOR (the third): a program of the model is run on values of which some are known, in the kernel. No program is named here. -/
set_option linter.unusedVariables false
namespace Go.Proofs.YtjmifcnfnihhnaaGreatDoor
namespace Ev
noncomputable section
/-- scalars -/
inductive Sc where
  | b (x : Bool)
  | i (k : IntKind) (n : Int)
  | s (l : List Nat)
  | p (b off : Nat)
  | pn
  | sl (b off len sz : Nat)
  | sn
  | se
  | y (j : Nat)
  | ps (b i : Nat)
inductive TC where
  | c (x : Sc)
  | ag (l : List Sc)
inductive AV where
  | c (x : Sc)
  | ag (l : List Sc)
  | tp (l : List TC)
  | u
variable {α β γ : Type}
structure N8 (α : Type) where
  c0 : α
  c1 : α
  c2 : α
  c3 : α
  c4 : α
  c5 : α
  c6 : α
  c7 : α
inductive D8 where
  | d0
  | d1
  | d2
  | d3
  | d4
  | d5
  | d6
  | d7
def dig (i : Nat) : D8 := @Nat.rec (fun _ => D8) (D8.d0) (fun i _ => @Nat.rec (fun _ => D8) (D8.d1) (fun i _ => @Nat.rec (fun _ => D8) (D8.d2) (fun i _ => @Nat.rec (fun _ => D8) (D8.d3) (fun i _ => @Nat.rec (fun _ => D8) (D8.d4) (fun i _ => @Nat.rec (fun _ => D8) (D8.d5) (fun i _ => @Nat.rec (fun _ => D8) (D8.d6) (fun i _ => D8.d7) i) i) i) i) i) i) i
def selD (d : D8) : N8 α → α := @D8.rec (fun _ => N8 α → α) N8.c0 N8.c1 N8.c2 N8.c3 N8.c4 N8.c5 N8.c6 N8.c7 d
def sel (i : Nat) : N8 α → α := selD (dig i)
def up0 (v : α) (K : N8 α → β) (t : N8 α) : β := @N8.rec α (fun _ => β) (fun c0 c1 c2 c3 c4 c5 c6 c7 => K ⟨v, c1, c2, c3, c4, c5, c6, c7⟩) t
def up1 (v : α) (K : N8 α → β) (t : N8 α) : β := @N8.rec α (fun _ => β) (fun c0 c1 c2 c3 c4 c5 c6 c7 => K ⟨c0, v, c2, c3, c4, c5, c6, c7⟩) t
def up2 (v : α) (K : N8 α → β) (t : N8 α) : β := @N8.rec α (fun _ => β) (fun c0 c1 c2 c3 c4 c5 c6 c7 => K ⟨c0, c1, v, c3, c4, c5, c6, c7⟩) t
def up3 (v : α) (K : N8 α → β) (t : N8 α) : β := @N8.rec α (fun _ => β) (fun c0 c1 c2 c3 c4 c5 c6 c7 => K ⟨c0, c1, c2, v, c4, c5, c6, c7⟩) t
def up4 (v : α) (K : N8 α → β) (t : N8 α) : β := @N8.rec α (fun _ => β) (fun c0 c1 c2 c3 c4 c5 c6 c7 => K ⟨c0, c1, c2, c3, v, c5, c6, c7⟩) t
def up5 (v : α) (K : N8 α → β) (t : N8 α) : β := @N8.rec α (fun _ => β) (fun c0 c1 c2 c3 c4 c5 c6 c7 => K ⟨c0, c1, c2, c3, c4, v, c6, c7⟩) t
def up6 (v : α) (K : N8 α → β) (t : N8 α) : β := @N8.rec α (fun _ => β) (fun c0 c1 c2 c3 c4 c5 c6 c7 => K ⟨c0, c1, c2, c3, c4, c5, v, c7⟩) t
def up7 (v : α) (K : N8 α → β) (t : N8 α) : β := @N8.rec α (fun _ => β) (fun c0 c1 c2 c3 c4 c5 c6 c7 => K ⟨c0, c1, c2, c3, c4, c5, c6, v⟩) t
def updD (d : D8) : α → (N8 α → β) → N8 α → β := @D8.rec (fun _ => α → (N8 α → β) → N8 α → β) up0 up1 up2 up3 up4 up5 up6 up7 d
def upd (i : Nat) : α → (N8 α → β) → N8 α → β := updD (dig i)
def all8 (a : α) : N8 α := ⟨a, a, a, a, a, a, a, a⟩
def headOr (l : List α) (a : α) : α := @List.rec α (fun _ => α) a (fun b _ _ => b) l
def drp (n : Nat) : List α → List α := @Nat.rec (fun _ => List α → List α) (fun l => l) (fun _ ih l => ih l.tail) n
def ofL1 (z : α) (l : List α) : N8 α := ⟨headOr (l) z, headOr (drp 1 l) z, headOr (drp 2 l) z, headOr (drp 3 l) z, headOr (drp 4 l) z, headOr (drp 5 l) z, headOr (drp 6 l) z, headOr (drp 7 l) z⟩
def ofL2 (z : α) (l : List α) : N8 (N8 α) := ⟨ofL1 z (drp 0 l), ofL1 z (drp 8 l), ofL1 z (drp 16 l), ofL1 z (drp 24 l), ofL1 z (drp 32 l), ofL1 z (drp 40 l), ofL1 z (drp 48 l), ofL1 z (drp 56 l)⟩
def ofL3 (z : α) (l : List α) : N8 (N8 (N8 α)) := ⟨ofL2 z (drp 0 l), ofL2 z (drp 64 l), ofL2 z (drp 128 l), ofL2 z (drp 192 l), ofL2 z (drp 256 l), ofL2 z (drp 320 l), ofL2 z (drp 384 l), ofL2 z (drp 448 l)⟩
def ofL4 (z : α) (l : List α) : N8 (N8 (N8 (N8 α))) := ⟨ofL3 z (drp 0 l), ofL3 z (drp 512 l), ofL3 z (drp 1024 l), ofL3 z (drp 1536 l), ofL3 z (drp 2048 l), ofL3 z (drp 2560 l), ofL3 z (drp 3072 l), ofL3 z (drp 3584 l)⟩
def get1 (k : Nat) (t : N8 α) : α := sel k t
def get2 (k : Nat) (t : N8 (N8 α)) : α := get1 (Nat.mod k 8) (sel (Nat.div k 8) t)
def get3 (k : Nat) (t : N8 (N8 (N8 α))) : α := get2 (Nat.mod k 64) (sel (Nat.div k 64) t)
def get4 (k : Nat) (t : N8 (N8 (N8 (N8 α)))) : α := get3 (Nat.mod k 512) (sel (Nat.div k 512) t)
def get5 (k : Nat) (t : N8 (N8 (N8 (N8 (N8 α))))) : α := get4 (Nat.mod k 4096) (sel (Nat.div k 4096) t)
def get6 (k : Nat) (t : N8 (N8 (N8 (N8 (N8 (N8 α)))))) : α := get5 (Nat.mod k 32768) (sel (Nat.div k 32768) t)
def set1 (k : Nat) (v : α) (t : N8 α) (K : N8 α → β) : β := upd k v K t
def set2 (k : Nat) (v : α) (t : N8 (N8 α)) (K : N8 (N8 α) → β) : β := set1 (Nat.mod k 8) v (sel (Nat.div k 8) t) fun c => upd (Nat.div k 8) c K t
def set3 (k : Nat) (v : α) (t : N8 (N8 (N8 α))) (K : N8 (N8 (N8 α)) → β) : β := set2 (Nat.mod k 64) v (sel (Nat.div k 64) t) fun c => upd (Nat.div k 64) c K t
def set4 (k : Nat) (v : α) (t : N8 (N8 (N8 (N8 α)))) (K : N8 (N8 (N8 (N8 α))) → β) : β := set3 (Nat.mod k 512) v (sel (Nat.div k 512) t) fun c => upd (Nat.div k 512) c K t
def set5 (k : Nat) (v : α) (t : N8 (N8 (N8 (N8 (N8 α))))) (K : N8 (N8 (N8 (N8 (N8 α)))) → β) : β := set4 (Nat.mod k 4096) v (sel (Nat.div k 4096) t) fun c => upd (Nat.div k 4096) c K t
def set6 (k : Nat) (v : α) (t : N8 (N8 (N8 (N8 (N8 (N8 α)))))) (K : N8 (N8 (N8 (N8 (N8 (N8 α))))) → β) : β := set5 (Nat.mod k 32768) v (sel (Nat.div k 32768) t) fun c => upd (Nat.div k 32768) c K t
def full2 (a : α) : N8 (N8 α) := all8 (all8 a)
def full3 (a : α) : N8 (N8 (N8 α)) := all8 (full2 a)
def full4 (a : α) : N8 (N8 (N8 (N8 α))) := all8 (full3 a)
def full5 (a : α) : N8 (N8 (N8 (N8 (N8 α)))) := all8 (full4 a)
def full6 (a : α) : N8 (N8 (N8 (N8 (N8 (N8 α))))) := all8 (full5 a)
/-- a block's cells -/
inductive Cl where
  | c0
  | c1 (t : N8 Sc)
  | c2 (t : N8 (N8 Sc))
  | c3 (t : N8 (N8 (N8 Sc)))
  | c4 (t : N8 (N8 (N8 (N8 Sc))))
  | pl (i : Nat)
def Cl.get (k : Nat) (c : Cl) : Sc := @Cl.rec (fun _ => Sc) .se (get1 k) (get2 k) (get3 k) (get4 k) (fun _ => .se) c
def Cl.set (k : Nat) (v : Sc) (c : Cl) (K : Cl → β) : β := @Cl.rec (fun _ => β) (K .c0) (fun t => set1 k v t fun t => K (.c1 t)) (fun t => set2 k v t fun t => K (.c2 t)) (fun t => set3 k v t fun t => K (.c3 t)) (fun t => set4 k v t fun t => K (.c4 t)) (fun _ => set1 k v (all8 .se) fun t => K (.c1 t)) c
def Cl.room (c : Cl) : Nat := @Cl.rec (fun _ => Nat) 0 (fun _ => 8) (fun _ => 64) (fun _ => 512) (fun _ => 4096) (fun _ => 8) c
/-- a block: how many cells are known -/
structure Bk where
  n : Nat
  t : Cl
def ofC (n : Nat) (l : List Sc) : Cl := @Bool.rec (fun _ => Cl) (@Bool.rec (fun _ => Cl) (@Bool.rec (fun _ => Cl) (.c4 (ofL4 .se l)) (.c3 (ofL3 .se l)) (Nat.ble n 512)) (.c2 (ofL2 .se l)) (Nat.ble n 64)) (.c1 (ofL1 .se l)) (Nat.ble n 8)
def Bk.of (l : List Sc) : Bk := (fun n => ⟨n, ofC n l⟩) l.length
def dead : Bk := ⟨0, .c0⟩
abbrev Hp := N8 (N8 (N8 (N8 (N8 Bk))))
structure St where
  h : Hp
  nx : Nat
  rd : Nat
  wr : Nat
inductive R (α : Type) where
  | ok (a : α) (s : St)
  | no (n : Nat)
abbrev M (α : Type) := St → R α
def ret (a : α) : M α := fun s => .ok a s
def bnd (m : M α) (f : α → M β) : M β := fun s => @R.rec α (fun _ => R β) f R.no (m s)
def no (n : Nat) : M α := fun _ => .no n
def bit (id : Nat) : Nat := Nat.shiftLeft 1 id
/-- a block is looked at -/
def look (id : Nat) (K : Bk → M α) : M α := fun s => @St.rec (fun _ => R α) (fun h nx rd wr => @Bool.rec (fun _ => R α) (.no 1) (K (get5 id h) ⟨h, nx, Nat.lor rd (bit id), wr⟩) (Nat.blt id nx)) s
def put (id : Nat) (b : Bk) (K : M α) : M α := fun s => @St.rec (fun _ => R α) (fun h nx rd wr => @Bool.rec (fun _ => R α) (.no 1) (@Bool.rec (fun _ => R α) (.no 1) (set5 id b h fun h => K ⟨h, nx, rd, Nat.lor wr (bit id)⟩) (Nat.blt id nx)) (Nat.ble 8 id)) s
def fresh (b : Bk) (K : Nat → M α) : M α := fun s => @St.rec (fun _ => R α) (fun h nx rd wr => @Bool.rec (fun _ => R α) (.no 2) (set5 nx b h fun h => K nx ⟨h, Nat.succ nx, rd, wr⟩) (Nat.blt nx 32768)) s
def optm (n : Nat) (o : Option α) (f : α → M β) : M β := @Option.rec _ (fun _ => M β) (no n) f o
/-- cells from off on -/
def cellsF (t : Cl) (n : Nat) : Nat → List Sc := @Nat.rec (fun _ => Nat → List Sc) (fun _ => []) (fun _ ih off => t.get off :: ih (Nat.succ off)) n
def storeF (l : List Sc) : Nat → Cl → (Cl → β) → β := @List.rec Sc (fun _ => Nat → Cl → (Cl → β) → β) (fun _ t K => K t) (fun v _ ih off t K => t.set off v fun t => ih (Nat.succ off) t K) l
def cellsOf (v : AV) : Option (List Sc) := @AV.rec (fun _ => Option (List Sc)) (fun x => some [x]) (fun l => some l) (fun _ => none) none v
/-- types -/
structure TI where
  sz : Nat
  bs : Nat
  ag : Bool
  z : Option (List Sc)
  kd : Nat
  el : Nat
  ln : Nat
  fs : List (Nat × Nat)
  ik : IntKind
def scOf : Value → Option Sc
  | .bool x => some (.b x)
  | .int k n => some (.i k n)
  | .string s => some (.s (s.data.toList.map (·.toNat)))
  | .pointer none => some .pn
  | .slice none 0 0 => some .sn
  | _ => none
def scsOf : List Value → Option (List Sc)
  | [] => some []
  | v :: l => match scOf v with
    | some x => match scsOf l with
      | some m => some (x :: m)
      | none => none
    | none => none
def ofV : Value → AV
  | .agg ⟨l⟩ => match scsOf l with
    | some m => .ag m
    | none => .u
  | .tuple ⟨[]⟩ => .tp []
  | v => match scOf v with
    | some x => .c x
    | none => .u
def ti0 : TI := ⟨0, 0, false, none, 0, 0, 0, [], .i64⟩
def tiOf (P : Program) (t : Nat) : TI := match P.info? t with
  | none => ti0
  | some i =>
    let z := match i.zero with
      | some v => cellsOf (ofV v)
      | none => none
    match P.underlying t with
    | some (.slice e) => ⟨i.size, i.bytes, false, z, 1, e, 0, [], .i64⟩
    | some (.array n e) => ⟨i.size, i.bytes, true, z, 2, e, n, [], .i64⟩
    | some (.struct fs) => ⟨i.size, i.bytes, true, z, 3, 0, 0, fs.toList.map fun f => (f.offset, f.type), .i64⟩
    | some .string => ⟨i.size, i.bytes, false, z, 4, 0, 0, [], .i64⟩
    | some (.int k) => ⟨i.size, i.bytes, false, z, 5, 0, 0, [], k⟩
    | some .bool => ⟨i.size, i.bytes, false, z, 6, 0, 0, [], .i64⟩
    | some (.pointer e) => ⟨i.size, i.bytes, false, z, 7, e, 0, [], .i64⟩
    | _ => ti0
/-- the program, and which temps are kept from a region to the next -/
structure Tab where
  P : Program
  kp : Nat → Nat
  orc : BinOp → Sc → Sc → Option Sc
  ouc : UnOp → Sc → Option Sc
  dec : Nat → Option Bool
  oln : Nat → Option Sc
  ocv : Nat → Nat → Option Sc
  oix : Nat → Nat → Option Sc
  olk : Nat → Nat
  osl : Nat → Nat → Nat → Option Sc
  ost : List Sc → Option Sc
  hk : Nat → List AV → Option (M AV)
def Tab.t (T : Tab) (t : Nat) : TI := tiOf T.P t
def Tab.f (T : Tab) (k : Nat) : Option Func := T.P.funcs[k]?
def nth (l : List α) : Nat → Option α := @List.rec α (fun _ => Nat → Option α) (fun _ => none) (fun a _ ih k => @Nat.rec (fun _ => Option α) (some a) (fun k _ => ih k) k) l
/-- size and element size, told once -/
def szT (T : Tab) (t : Nat) : Nat := (T.t t).sz
def agT (T : Tab) (t : Nat) : Bool := (T.t t).ag
def zeT (T : Tab) (t : Nat) : Option (List Sc) := (T.t t).z
def bsT (T : Tab) (t : Nat) : Nat := (T.t t).bs
/-- the zero cells of a row's element: as many as its size says -/
def ezE (T : Tab) (t : Nat) : Option (List Sc) := @Option.rec _ (fun _ => Option (List Sc)) none (fun l => @Bool.rec (fun _ => Option (List Sc)) none (@Bool.rec (fun _ => Option (List Sc)) none (some l) (Nat.blt 0 l.length)) (Nat.beq l.length (T.t t).sz)) (zeT T t)
def kdT (T : Tab) (t : Nat) : Nat := (T.t t).kd
def elT (T : Tab) (t : Nat) : Nat := (T.t t).el
def lnT (T : Tab) (t : Nat) : Nat := (T.t t).ln
def ikT (T : Tab) (t : Nat) : IntKind := (T.t t).ik
def ezT (T : Tab) (t : Nat) : Nat := szT T (elT T t)
def isK (T : Tab) (t k : Nat) : Bool := Nat.beq (kdT T t) k
/-- the longest row that an append is borne at: its bytes, too -/
def limT (T : Tab) (t : Nat) : Nat := @Option.rec _ (fun _ => Nat) 0 (fun _ => @Bool.rec (fun _ => Nat) 0 100000 (Nat.ble (bsT T t) 100000)) (ezE T t)
/-- a field's offset and type -/
def fdT (T : Tab) (t f : Nat) : Option (Nat × Nat) := nth (T.t t).fs f
/-- the fields' places, if each one's type is known -/
def fpL (T : Tab) (l : List (Nat × Nat)) : Option (List (Nat × Nat)) := @List.rec _ (fun _ => Option (List (Nat × Nat))) (some []) (fun q _ ih => @Bool.rec (fun _ => Option (List (Nat × Nat))) (@Option.rec _ (fun _ => Option (List (Nat × Nat))) none (fun m => some ((q.1, szT T q.2) :: m)) ih) none (isK T q.2 0)) l
def fpT (T : Tab) (t : Nat) : Option (List (Nat × Nat)) := fpL T (T.t t).fs
/-- does an element take room? -/
def ezB (T : Tab) (t : Nat) : Bool := Nat.blt 0 (ezT T t)
/-- a field's offset, if it takes room -/
def foT (T : Tab) (t f : Nat) : Option Nat := @Option.rec _ (fun _ => Option Nat) none (fun q => @Nat.rec (fun _ => Option Nat) none (fun _ _ => some q.1) (szT T q.2)) (fdT T t f)
/-- numbers -/
def wr64 (n : Int) : Int := @Int.rec (fun _ => Int) (fun m => @Bool.rec (fun _ => Int) (IntKind.i64.wrap (.ofNat m)) (.ofNat m) (Nat.ble m 9223372036854775807)) (fun m => @Bool.rec (fun _ => Int) (IntKind.i64.wrap (.negSucc m)) (.negSucc m) (Nat.ble m 9223372036854775807)) n
def wr (k : IntKind) : Int → Int := @IntKind.rec (fun _ => Int → Int) IntKind.i8.wrap IntKind.i16.wrap IntKind.i32.wrap wr64 IntKind.u8.wrap IntKind.u16.wrap IntKind.u32.wrap IntKind.u64.wrap k
def forceN (n : Nat) (f : Nat → α) : α := @Nat.rec (fun _ => α) (f 0) (fun m _ => f (Nat.succ m)) n
def forceI (n : Int) (f : Int → α) : α := @Int.rec (fun _ => α) (fun m => forceN m fun m => f (.ofNat m)) (fun m => forceN m fun m => f (.negSucc m)) n
def ieq (a b : Int) : Bool := @Int.rec (fun _ => Bool) (fun m => @Int.rec (fun _ => Bool) (fun n => Nat.beq m n) (fun _ => false) b) (fun m => @Int.rec (fun _ => Bool) (fun _ => false) (fun n => Nat.beq m n) b) a
def ile (a b : Int) : Bool := @Int.rec (fun _ => Bool) (fun m => @Int.rec (fun _ => Bool) (fun n => Nat.ble m n) (fun _ => false) b) (fun m => @Int.rec (fun _ => Bool) (fun _ => true) (fun n => Nat.ble n m) b) a
def leq (a : List Nat) : List Nat → Bool := @List.rec Nat (fun _ => List Nat → Bool) (fun b => @List.rec Nat (fun _ => Bool) true (fun _ _ _ => false) b) (fun x _ ih b => @List.rec Nat (fun _ => Bool) false (fun y m _ => @Bool.rec (fun _ => Bool) false (ih m) (Nat.beq x y)) b) a
def kN (k : IntKind) : Nat := @IntKind.rec (fun _ => Nat) 0 1 2 3 4 5 6 7 k
def mkI (k : IntKind) (n : Int) : Option Sc := forceI n fun n => some (.i k n)
def mkB (b : Bool) : Option Sc := @Bool.rec (fun _ => Option Sc) (some (.b false)) (some (.b true)) b
def nt (b : Bool) : Bool := @Bool.rec (fun _ => Bool) true false b
abbrev BI := IntKind → Int → Int → Option Sc
def nI : BI := fun _ _ _ => none
def iAdd : BI := fun k a b => mkI k (wr k (Int.add a b))
def iSub : BI := fun k a b => mkI k (wr k (Int.sub a b))
def iMul : BI := fun k a b => mkI k (wr k (Int.mul a b))
def iQuo : BI := fun k a b => @Bool.rec (fun _ => Option Sc) (mkI k (wr k (a.tdiv b))) none (ieq b 0)
def iRem : BI := fun k a b => @Bool.rec (fun _ => Option Sc) (mkI k (a.tmod b)) none (ieq b 0)
def iAnd : BI := fun k a b => mkI k (k.wrap (BitVec.ofInt k.bits a &&& BitVec.ofInt k.bits b).toNat)
def iOr : BI := fun k a b => mkI k (k.wrap (BitVec.ofInt k.bits a ||| BitVec.ofInt k.bits b).toNat)
def iAndNot : BI := fun k a b => mkI k (k.wrap (BitVec.ofInt k.bits a &&& ~~~ BitVec.ofInt k.bits b).toNat)
def iEql : BI := fun _ a b => mkB (ieq a b)
def iNeq : BI := fun _ a b => mkB (nt (ieq a b))
def iLss : BI := fun _ a b => mkB (nt (ile b a))
def iLeq : BI := fun _ a b => mkB (ile a b)
def iGtr : BI := fun _ a b => mkB (nt (ile a b))
def iGeq : BI := fun _ a b => mkB (ile b a)
def iShl : BI := fun k a b => @Bool.rec (fun _ => Option Sc) none (mkI k (wr k (a * 2 ^ (min b.toNat k.bits)))) (ile 0 b)
def iShr : BI := fun k a b => @Bool.rec (fun _ => Option Sc) none (mkI k (a.fdiv (2 ^ (min b.toNat k.bits)))) (ile 0 b)
/-- an operator on numbers; whether the kinds must be the same -/
def bI (op : BinOp) : BI := match op with
  | .add => iAdd
  | .sub => iSub
  | .mul => iMul
  | .quo => iQuo
  | .rem => iRem
  | .and => iAnd
  | .or => iOr
  | .andNot => iAndNot
  | .eql => iEql
  | .neq => iNeq
  | .lss => iLss
  | .leq => iLeq
  | .gtr => iGtr
  | .geq => iGeq
  | .shl => iShl
  | .shr => iShr
  | _ => nI
def free2 (op : BinOp) : Bool := match op with
  | .shl => true
  | .shr => true
  | _ => false
def sAdd (a b : List Nat) : Option Sc := @Bool.rec (fun _ => Option Sc) none (some (.s (a ++ b))) (Nat.ble (Nat.add a.length b.length) 1000000)
def sEql (a b : List Nat) : Option Sc := mkB (leq a b)
def sNeq (a b : List Nat) : Option Sc := mkB (nt (leq a b))
def bS (op : BinOp) : List Nat → List Nat → Option Sc := match op with
  | .add => sAdd
  | .eql => sEql
  | .neq => sNeq
  | _ => fun _ _ => none
def beq2 (a b : Bool) : Bool := @Bool.rec (fun _ => Bool) (nt b) b a
def bB (op : BinOp) : Bool → Bool → Option Sc := match op with
  | .eql => fun a b => mkB (beq2 a b)
  | .neq => fun a b => mkB (nt (beq2 a b))
  | _ => fun _ _ => none
def binI (op : BinOp) (k : IntKind) (a : Int) (y : Sc) : Option Sc := @Sc.rec (fun _ => Option Sc) (fun _ => none) (fun k' b => @Bool.rec (fun _ => Option Sc) (@Bool.rec (fun _ => Option Sc) none (bI op k a b) (Nat.beq (kN k) (kN k'))) (bI op k a b) (free2 op)) (fun _ => none) (fun _ _ => none) (none) (fun _ _ _ _ => none) (none) (none) (fun _ => none) (fun _ _ => none) y
def binS (op : BinOp) (a : List Nat) (y : Sc) : Option Sc := @Sc.rec (fun _ => Option Sc) (fun _ => none) (fun _ _ => none) (fun b => bS op a b) (fun _ _ => none) (none) (fun _ _ _ _ => none) (none) (none) (fun _ => none) (fun _ _ => none) y
def binB (op : BinOp) (bt : Bool) (a : Bool) (y : Sc) : Option Sc := @Sc.rec (fun _ => Option Sc) (fun b => @Bool.rec (fun _ => Option Sc) none (bB op a b) bt) (fun _ _ => none) (fun _ => none) (fun _ _ => none) (none) (fun _ _ _ _ => none) (none) (none) (fun _ => none) (fun _ _ => none) y
def nil2 : Sc → Option Sc := fun _ => none
def bin (op : BinOp) (bt : Bool) (x : Sc) : Sc → Option Sc := @Sc.rec (fun _ => Sc → Option Sc) (binB op bt) (binI op) (binS op) (fun _ _ => nil2) (nil2) (fun _ _ _ _ => nil2) (nil2) (nil2) (fun _ => nil2) (fun _ _ => nil2) x
/-- parts put into cells -/
def overlay0 (vs : List Sc) : List Sc → List Sc := @List.rec Sc (fun _ => List Sc → List Sc) (fun l => l) (fun v _ ih l => v :: ih l.tail) vs
def overlay (n : Nat) (vs : List Sc) : List Sc → List Sc := @Nat.rec (fun _ => List Sc → List Sc) (overlay0 vs) (fun _ ih l => @List.rec Sc (fun _ => List Sc) [] (fun c l _ => c :: ih l) l) n
def fillA (place : Nat → Option (Nat × Nat)) (ps : List (Nat × Option (List Sc))) : List Sc → Option (List Sc) := @List.rec _ (fun _ => List Sc → Option (List Sc)) (fun cells => some cells) (fun q _ ih cells => @Option.rec _ (fun _ => Option (List Sc)) none (fun vs => @Option.rec _ (fun _ => Option (List Sc)) none (fun os => @Bool.rec (fun _ => Option (List Sc)) none (@Bool.rec (fun _ => Option (List Sc)) none (ih (overlay os.1 vs cells)) (Nat.ble (Nat.add os.1 os.2) cells.length)) (Nat.beq vs.length os.2)) (place q.1)) q.2) ps
def repl (z : List Sc) (n : Nat) : List Sc := @Nat.rec (fun _ => List Sc) [] (fun _ ih => z ++ ih) n
def newBlk (l : List Sc) (K : Nat → M α) : M α := @Bool.rec (fun _ => M α) (no 3) (fresh (Bk.of l) K) (Nat.ble l.length 4096)
/-- temps: those of this region, the last one first; those that are kept -/
inductive Lc where
  | nl
  | cs (t : Nat) (v : AV) (r : Lc)
abbrev Vs := N8 (N8 (N8 AV))
structure Tm where
  l : Lc
  v : Vs
def und : AV := .tp []
def lget (l : Lc) : Nat → Vs → AV := @Lc.rec (fun _ => Nat → Vs → AV) get3 (fun t v _ ih k vs => @Bool.rec (fun _ => AV) (ih k vs) v (Nat.beq t k)) l
def tget (k : Nat) (tm : Tm) : AV := @Tm.rec (fun _ => AV) (fun l v => lget l k v) tm
def evo (x : Operand) : Tm → AV := @Operand.rec (fun _ => Tm → AV) tget (fun v _ => ofV v) (fun g _ => .c (.p g 0)) (fun _ _ => .u) x
/-- is it kept? -/
def kept (kp d : Nat) : Nat := Nat.land (Nat.shiftRight kp d) 1
def tputS (kp d : Nat) (v : AV) (K : Tm → α) (l : Lc) (vs : Vs) : α := @Nat.rec (fun _ => α) (K ⟨.cs d v l, vs⟩) (fun _ _ => set3 d v vs fun vs => K ⟨.cs d v l, vs⟩) (kept kp d)
def tput (kp : Nat) (dst : Option Tmp) (v : AV) (K : Tm → α) (tm : Tm) : α := @Option.rec _ (fun _ => α) (K tm) (fun d => @Tm.rec (fun _ => α) (tputS kp d v K) tm) dst
abbrev Cal := Nat → List AV → M AV
abbrev OpF := Tab → Cal → Tm → M AV
def retC (x : Sc) : M AV := fun s => .ok (.c x) s
/-- an operand that is a scalar -/
def avC (n : Nat) (v : AV) (f : Sc → M α) : M α := @AV.rec (fun _ => M α) f (fun _ => no n) (fun _ => no n) (no n) v
def scP (n : Nat) (x : Sc) (f : Nat → Nat → M α) : M α := @Sc.rec (fun _ => M α) (fun _ => no n) (fun _ _ => no n) (fun _ => no n) (f) (no n) (fun _ _ _ _ => no n) (no n) (no n) (fun _ => no n) (fun _ _ => no n) x
def scI (n : Nat) (x : Sc) (f : IntKind → Int → M α) : M α := @Sc.rec (fun _ => M α) (fun _ => no n) (f) (fun _ => no n) (fun _ _ => no n) (no n) (fun _ _ _ _ => no n) (no n) (no n) (fun _ => no n) (fun _ _ => no n) x
def scB (n : Nat) (x : Sc) (f : Bool → M α) : M α := @Sc.rec (fun _ => M α) (f) (fun _ _ => no n) (fun _ => no n) (fun _ _ => no n) (no n) (fun _ _ _ _ => no n) (no n) (no n) (fun _ => no n) (fun _ _ => no n) x
def scS (n : Nat) (x : Sc) (f : List Nat → M α) : M α := @Sc.rec (fun _ => M α) (fun _ => no n) (fun _ _ => no n) (f) (fun _ _ => no n) (no n) (fun _ _ _ _ => no n) (no n) (no n) (fun _ => no n) (fun _ _ => no n) x
def scSz (n : Nat) (x : Sc) (g : Nat → M α) (f : List Nat → M α) : M α := @Sc.rec (fun _ => M α) (fun _ => no n) (fun _ _ => no n) (f) (fun _ _ => no n) (no n) (fun _ _ _ _ => no n) (no n) (no n) (g) (fun _ _ => no n) x
def scBy (n : Nat) (x : Sc) (d : Nat → Option Bool) (f : Bool → M α) : M α := @Sc.rec (fun _ => M α) (f) (fun _ _ => no n) (fun _ => no n) (fun _ _ => no n) (no n) (fun _ _ _ _ => no n) (no n) (no n) (fun j => optm n (d j) f) (fun _ _ => no n) x
def scSy (n : Nat) (x : Sc) (d : Nat → Option Sc) (f : List Nat → M AV) : M AV := @Sc.rec (fun _ => M AV) (fun _ => no n) (fun _ _ => no n) (f) (fun _ _ => no n) (no n) (fun _ _ _ _ => no n) (no n) (no n) (fun j => optm n (d j) retC) (fun _ _ => no n) x
def scIy (n : Nat) (x : Sc) (d : Nat → Option Sc) (f : IntKind → Int → M AV) : M AV := @Sc.rec (fun _ => M AV) (fun _ => no n) (f) (fun _ => no n) (fun _ _ => no n) (no n) (fun _ _ _ _ => no n) (no n) (no n) (fun j => optm n (d j) retC) (fun _ _ => no n) x
def scL (n : Nat) (x : Sc) (f : Nat → Nat → Nat → Nat → M α) (z : M α) : M α := @Sc.rec (fun _ => M α) (fun _ => no n) (fun _ _ => no n) (fun _ => no n) (fun _ _ => no n) (no n) (f) (z) (z) (fun _ => no n) (fun _ _ => no n) x
def atP (n : Nat) (x : Operand) (tm : Tm) (f : Nat → Nat → M AV) : M AV := avC n (evo x tm) fun s => scP n s f
def intN (n : Nat) (z : Int) (f : Nat → M α) : M α := @Int.rec (fun _ => M α) f (fun _ => no n) z
def atN (n : Nat) (x : Operand) (tm : Tm) (f : Nat → M AV) : M AV := avC n (evo x tm) fun s => scI n s fun _ z => intN n z f
def iff (b : Bool) (x y : α) : α := @Bool.rec (fun _ => α) y x b
def oMove (x : Operand) : OpF := fun _ _ tm s => .ok (evo x tm) s
def oPick (c a b : Operand) : OpF := fun _ _ tm => avC 20 (evo c tm) fun s => scB 20 s fun t => @Bool.rec (fun _ => M AV) (ret (evo b tm)) (ret (evo a tm)) t
def oAlloc (t : TypeId) : OpF := fun T _ _ => optm 19 (zeT T t) fun z => newBlk z fun id => retC (.p id 0)
def oBox (_ : TypeId) (x : Operand) : OpF := fun _ _ tm => optm 21 (cellsOf (evo x tm)) fun l => newBlk l fun id => retC (.p id 0)
def placeA (T : Tab) (t i : Nat) : Option (Nat × Nat) := some (Nat.mul i (ezT T t), ezT T t)
def partsE (ps : Array (Nat × Operand)) (tm : Tm) : List (Nat × Option (List Sc)) := ps.toList.map fun q => (q.1, cellsOf (evo q.2 tm))
def oBuild (t : TypeId) (ps : Array (Nat × Operand)) : OpF := fun T _ tm => optm 22 (zeT T t) fun z => iff (isK T t 3) (optm 22 (fpT T t) fun fp => optm 22 (fillA (nth fp) (partsE ps tm) z) fun l => ret (.ag l)) (iff (isK T t 2) (iff (ezB T t) (optm 22 (fillA (placeA T t) (partsE ps tm) z) fun l => ret (.ag l)) (no 23)) (no 23))
def oBuildSlice (t : TypeId) (len : Nat) (ps : Array (Nat × Operand)) : OpF := fun T _ tm => iff (isK T t 1) (optm 24 (ezE T (elT T t)) fun z => iff (Nat.ble (Nat.mul len z.length) 16777216) (optm 24 (fillA (placeA T t) (partsE ps tm) (repl z len)) fun l => newBlk l fun id => retC (.sl id 0 len (ezT T t))) (no 24)) (no 25)
def loadA (n off : Nat) (b : Nat) : M AV := @Nat.rec (fun _ => M AV) (ret (.ag [])) (fun m _ => look b fun B => iff (Nat.ble (Nat.add off (Nat.succ m)) B.n) (ret (.ag (cellsF B.t (Nat.succ m) off))) (no 26)) n
def loadK (off : Nat) (B : Bk) : M AV := @Bk.rec (fun _ => M AV) (fun n t => @Bool.rec (fun _ => M AV) (no 27) (retC (t.get off)) (Nat.blt off n)) B
def loadC (off b : Nat) : M AV := look b (loadK off)
def oLoad (t : TypeId) (a : Operand) : OpF := fun T _ tm => @Bool.rec (fun _ => M AV) (atP 28 a tm fun b off => @Bool.rec (fun _ => M AV) (loadC off b) (loadA (szT T t) off b) (agT T t)) (no 28) (isK T t 0)
def storeK (l : List Sc) (off sz b : Nat) (B : Bk) : M AV := @Bk.rec (fun _ => M AV) (fun n t => @Bool.rec (fun _ => M AV) (no 30) (storeF l off t fun t => put b ⟨n, t⟩ (ret und)) (Nat.ble (Nat.add off sz) n)) B
def storeA (l : List Sc) (sz b off : Nat) : M AV := @Bool.rec (fun _ => M AV) (no 29) (@Nat.rec (fun _ => M AV) (ret und) (fun _ _ => look b (storeK l off sz b)) sz) (Nat.beq l.length sz)
def oStore (t : TypeId) (a x : Operand) : OpF := fun T _ tm => @Bool.rec (fun _ => M AV) (atP 31 a tm fun b off => optm 31 (cellsOf (evo x tm)) fun l => storeA l (szT T t) b off) (no 31) (isK T t 0)
def oNil (x : Operand) : OpF := fun _ _ tm => atP 32 x tm fun b off => retC (.p b off)
def pnil (x y : Sc) : Option Bool := match x, y with
  | .p _ _, .pn => some false
  | .pn, .p _ _ => some false
  | .pn, .pn => some true
  | _, _ => none
/-- a pointer and nil -/
def pbin (op : BinOp) (x y : Sc) : Option Sc := match op with
  | .eql => @Option.rec _ (fun _ => Option Sc) none (fun b => some (.b b)) (pnil x y)
  | .neq => @Option.rec _ (fun _ => Option Sc) none (fun b => some (.b (nt b))) (pnil x y)
  | _ => none
def pbinT (T : Tab) (t : TypeId) (op : BinOp) (x y : Sc) : Option Sc := @Bool.rec (fun _ => Option Sc) none (pbin op x y) (isK T t 7)
def oBin (op : BinOp) (t : TypeId) (x y : Operand) (_ : TypeId) : OpF := fun T _ tm => avC 33 (evo x tm) fun a => avC 33 (evo y tm) fun b => @Option.rec _ (fun _ => M AV) (@Option.rec _ (fun _ => M AV) (optm 33 (T.orc op a b) retC) retC (pbinT T t op a b)) retC (bin op (isK T t 6) a b)
def uNeg (x : Sc) : Option Sc := @Sc.rec (fun _ => Option Sc) (fun _ => none) (fun k n => iSub k 0 n) (fun _ => none) (fun _ _ => none) (none) (fun _ _ _ _ => none) (none) (none) (fun _ => none) (fun _ _ => none) x
def uNot (x : Sc) : Option Sc := @Sc.rec (fun _ => Option Sc) (fun b => mkB (nt b)) (fun _ _ => none) (fun _ => none) (fun _ _ => none) (none) (fun _ _ _ _ => none) (none) (none) (fun _ => none) (fun _ _ => none) x
def un (op : UnOp) : Sc → Option Sc := match op with
  | .neg => uNeg
  | .not => uNot
  | _ => fun _ => none
def oUn (op : UnOp) (_ : TypeId) (x : Operand) : OpF := fun T _ tm => avC 34 (evo x tm) fun a => @Option.rec _ (fun _ => M AV) (optm 34 (T.ouc op a) retC) retC (un op a)
/-- the cells that a row's value shows -/
def rowN (sz b off len : Nat) (K : Nat → List Sc → M α) : M α := @Nat.rec (fun _ => M α) (K 0 []) (fun m _ => look b fun B => iff (Nat.ble (Nat.add off (Nat.mul (Nat.succ m) sz)) B.n) (K (Nat.succ m) (cellsF B.t (Nat.mul (Nat.succ m) sz) off)) (no 3)) len
def rowOf (v : Sc) (sz : Nat) (K : Nat → List Sc → M α) : M α := @Sc.rec (fun _ => M α) (fun _ => no 5) (fun _ _ => no 5) (fun l => iff (Nat.beq sz 1) (K l.length (l.map fun c => .i .u8 (.ofNat c))) (no 4)) (fun _ _ => no 5) (no 5) (fun b off len s => iff (Nat.beq s sz) (rowN sz b off len K) (no 4)) (K 0 []) (K 0 [] ) (fun _ => no 5) (fun _ _ => no 5) v
def byteOf (x : Sc) : Option Nat := @Sc.rec (fun _ => Option Nat) (fun _ => none) (fun k n => iff (Nat.beq (kN k) 4) (@Int.rec (fun _ => Option Nat) (fun m => iff (Nat.blt m 256) (some m) none) (fun _ => none) n) none) (fun _ => none) (fun _ _ => none) (none) (fun _ _ _ _ => none) (none) (none) (fun _ => none) (fun _ _ => none) x
def bytesOf (l : List Sc) : Option (List Nat) := @List.rec Sc (fun _ => Option (List Nat)) (some []) (fun x _ ih => @Option.rec _ (fun _ => Option (List Nat)) none (fun c => @Option.rec _ (fun _ => Option (List Nat)) none (fun m => some (c :: m)) ih) (byteOf x)) l
def isB (T : Tab) (t : Nat) : Bool := iff (isK T t 5) (Nat.beq (kN (ikT T t)) 4) false
def oConvert (src dst : TypeId) (x : Operand) : OpF := fun T _ tm => avC 38 (evo x tm) fun v => iff (isK T src 0) (no 38)
  (iff (isK T dst 5) (scIy 38 v (T.ocv dst) fun _ n => optm 38 (mkI (ikT T dst) (wr (ikT T dst) n)) retC)
  (iff (isK T dst 4) (iff (isK T src 1) (iff (isB T (elT T src)) (scL 39 v (fun b off len sz => rowOf (.sl b off len sz) 1 fun _ r => @Option.rec _ (fun _ => M AV) (optm 39 (T.ost r) retC) (fun l => retC (.s l)) (bytesOf r)) (retC (.s []))) (no 40)) (no 40))
  (iff (Nat.beq src dst) (iff (isK T dst 1) (iff (isB T (elT T dst)) (scL 41 v (fun b off len sz => look b fun B => iff (Nat.blt 0 B.t.room) (put b B (retC (.sl b off len sz))) (no 41)) (no 41)) (no 41)) (no 41)) (no 41))))
def oMakeSlice (t : TypeId) (l c : Operand) : OpF := fun T _ tm => atN 43 l tm fun l => atN 43 c tm fun c => iff (isK T t 1) (iff (Nat.ble l c) (iff (Nat.ble c (limT T (elT T t))) (optm 43 (ezE T (elT T t)) fun z => newBlk (repl z c) fun id => retC (.sl id 0 l (ezT T t))) (no 43)) (no 43)) (no 43)
def bound (o : Option Operand) (tm : Tm) (z : Nat) (f : Nat → M AV) : M AV := @Option.rec _ (fun _ => M AV) (f z) (fun x => atN 46 x tm f) o
def cutS (l : List Nat) (k h : Nat) : Option Sc := iff (Nat.ble k h) (iff (Nat.ble h l.length) (some (.s ((l.drop k).take (Nat.sub h k)))) none) none
def cutR (b off len sz k h : Nat) : Option Sc := iff (Nat.ble h len) (@Nat.rec (fun _ => Option Sc) (some (.sl b off h sz)) (fun k _ => iff (Nat.ble h k) none (iff (Nat.beq h (Nat.succ k)) (some .se) (some (.sl b (Nat.add off (Nat.mul (Nat.succ k) sz)) (Nat.sub h (Nat.succ k)) sz)))) k) none
def two (lo hi : Option Operand) (tm : Tm) (z : Nat) (f : Nat → Nat → Option Sc) : M AV := bound lo tm 0 fun a => bound hi tm z fun b => optm 46 (f a b) retC
def oSlice (t : TypeId) (x : Operand) (lo hi mx : Option Operand) : OpF := fun T _ tm => @Option.rec _ (fun _ => M AV) (avC 46 (evo x tm) fun v => iff (isK T t 4) (scSz 46 v (fun j => two lo hi tm (T.olk j) (T.osl j)) fun l => two lo hi tm l.length (cutS l)) (iff (isK T t 1) (scL 46 v (fun b off len sz => iff (ezB T t) (iff (Nat.beq (ezT T t) sz) (two lo hi tm len (cutR b off len sz)) (no 46)) (no 46)) (no 46)) (no 46))) (fun _ => no 47) mx
def oFieldAddr (s : TypeId) (x : Operand) (f : Nat) : OpF := fun T _ tm => atP 48 x tm fun b off => @Option.rec _ (fun _ => M AV) (no 49) (fun o => retC (.p b (Nat.add off o))) (foT T s f)
def avA (n : Nat) (v : AV) (f : List Sc → M α) : M α := @AV.rec (fun _ => M α) (fun _ => no n) f (fun _ => no n) (no n) v
def partA (T : Tab) (t : TypeId) (l : List Sc) (o : Nat) : M AV := iff (isK T t 0) (no 51) (iff (agT T t) (ret (.ag ((l.drop o).take (szT T t)))) (optm 51 (nth l o) retC))
def oField (s : TypeId) (x : Operand) (f : Nat) : OpF := fun T _ tm => avA 53 (evo x tm) fun l => optm 52 (fdT T s f) fun q => partA T q.2 l q.1
def oIndexAddr (t : TypeId) (x ix : Operand) : OpF := fun T _ tm => atN 54 ix tm fun k =>
  iff (isK T t 1) (avC 55 (evo x tm) fun v => scL 55 v (fun b off len sz => iff (Nat.ble len k) (no 56) (iff (ezB T t) (iff (Nat.beq sz (ezT T t)) (retC (.p b (Nat.add off (Nat.mul k sz)))) (no 57)) (no 57))) (no 55))
  (iff (isK T t 2) (iff (ezB T t) (atP 58 x tm fun b off => iff (Nat.ble (lnT T t) k) (no 59) (retC (.p b (Nat.add off (Nat.mul k (ezT T t)))))) (no 60)) (no 60))
def oIndex (t : TypeId) (x ix : Operand) : OpF := fun T _ tm => atN 61 ix tm fun k =>
  iff (isK T t 4) (avC 61 (evo x tm) fun v => scSz 61 v (fun j => optm 62 (T.oix j k) retC) fun l => optm 62 (nth l k) fun c => retC (.i .u8 (.ofNat c)))
  (iff (isK T t 2) (iff (Nat.ble (lnT T t) k) (no 63) (avA 64 (evo x tm) fun l => partA T (elT T t) l (Nat.mul k (ezT T t)))) (no 65))
def tcV (c : TC) : AV := @TC.rec (fun _ => AV) AV.c AV.ag c
def oExtract (x : Operand) (k : Nat) : OpF := fun _ _ tm => @AV.rec (fun _ => M AV) (fun _ => no 67) (fun _ => no 67) (fun l => optm 67 (nth l k) fun c => ret (tcV c)) (no 67) (evo x tm)
def appN (x : Sc) : M AV := @Sc.rec (fun _ => M AV) (fun _ => no 6) (fun _ _ => no 6) (fun _ => no 6) (fun _ _ => no 6) (no 6) (fun b off len sz => retC (.sl b off len sz)) (retC .sn) (retC .se) (fun _ => no 6) (fun _ _ => no 6) x
def appG (b len sz n : Nat) (l : List Sc) (B : Bk) : M AV := put b dead (iff (Nat.ble (Nat.mul (Nat.add len n) sz) B.t.room) (storeF l (Nat.mul len sz) B.t fun t => fresh ⟨Nat.mul (Nat.add len n) sz, t⟩ fun id => retC (.sl id 0 (Nat.add len n) sz)) (newBlk (cellsF B.t (Nat.mul len sz) 0 ++ l) fun id => retC (.sl id 0 (Nat.add len n) sz)))
def appS (x : Sc) (lim sz n : Nat) (l : List Sc) : M AV := @Sc.rec (fun _ => M AV) (fun _ => no 10) (fun _ _ => no 10) (fun _ => no 10) (fun _ _ => no 10) (no 10) (fun b off len z => iff (Nat.beq off 0) (iff (Nat.beq z sz) (look b fun B => iff (Nat.ble (Nat.mul len sz) B.n) (iff (Nat.blt 0 B.t.room) (iff (Nat.ble (Nat.add len n) lim) (appG b len sz n l B) (no 12)) (no 9)) (no 9)) (no 9)) (no 9)) (iff (Nat.ble n lim) (newBlk l fun id => retC (.sl id 0 n sz)) (no 12)) (no 10) (fun _ => no 10) (fun _ _ => no 10) x
def oAppend (s x : Operand) (lim sz : Nat) (tm : Tm) : M AV := avC 11 (evo s tm) fun s => avC 11 (evo x tm) fun x => rowOf x sz fun n l => @Nat.rec (fun _ => M AV) (appN s) (fun m _ => appS s lim sz (Nat.succ m) l) n
def lenA (T : Tab) (t : TypeId) : M AV := iff (isK T t 2) (retC (.i .i64 (.ofNat (lnT T t)))) (no 70)
def lenC (T : Tab) (t : TypeId) (v : Sc) : M AV := iff (isK T t 1) (scL 71 v (fun _ _ len _ => retC (.i .i64 (.ofNat len))) (retC (.i .i64 (.ofNat 0)))) (iff (isK T t 4) (scSy 71 v T.oln fun l => retC (.i .i64 (.ofNat l.length))) (iff (isK T t 2) (lenA T t) (iff (isK T t 7) (lenA T (elT T t)) (no 71))))
def oLen (t : TypeId) (x : Operand) : OpF := fun T _ tm => @AV.rec (fun _ => M AV) (lenC T t) (fun _ => lenA T t) (fun _ => no 72) (no 72) (evo x tm)
def copyR (b off sz n : Nat) (l : List Sc) : M AV := @Nat.rec (fun _ => M AV) (retC (.i .i64 (.ofNat 0))) (fun m _ => look b fun B => iff (Nat.ble (Nat.add off (Nat.mul (Nat.succ m) sz)) B.n) (storeF (l.take (Nat.mul (Nat.succ m) sz)) off B.t fun t => put b ⟨B.n, t⟩ (retC (.i .i64 (.ofNat (Nat.succ m))))) (no 77)) n
def oCopy (s x : Operand) (sz : Nat) (tm : Tm) : M AV := avC 78 (evo s tm) fun s => avC 78 (evo x tm) fun x => rowOf x sz fun n l => scL 78 s (fun b off len z => iff (Nat.beq z sz) (copyR b off sz (iff (Nat.ble n len) n len) l) (no 78)) (retC (.i .i64 (.ofNat 0)))
/-- a row, or a string -/
def rowK (T : Tab) (t : Nat) : Bool := @Bool.rec (fun _ => Bool) (isK T t 4) true (isK T t 1)
def oBi (bt : Builtin) (args : List Operand) (tys : List TypeId) : OpF := match args, tys with
  | [x], [t] => match bt with
    | .len => oLen t x
    | _ => fun _ _ _ => no 80
  | [s, x], [ts, tx] => match bt with
    | .append => fun T _ tm => iff (isK T ts 1) (iff (rowK T tx) (iff (ezB T ts) (oAppend s x (limT T (elT T ts)) (ezT T ts) tm) (no 74)) (no 74)) (no 74)
    | .copy => fun T _ tm => iff (isK T ts 1) (iff (ezB T ts) (oCopy s x (ezT T ts) tm) (no 79)) (no 79)
    | _ => fun _ _ _ => no 81
  | _, _ => fun _ _ _ => no 82
def evos (xs : List Operand) (tm : Tm) : List AV := @List.rec Operand (fun _ => List AV) [] (fun x _ ih => evo x tm :: ih) xs
def oFn (f : FuncId) (args : List Operand) : OpF := fun _ call tm => call f (evos args tm)
def oCall (c : Call) : OpF := match c with
  | ⟨.builtin bt, args, tys⟩ => oBi bt args.toList tys.toList
  | ⟨.value (.func f), args, _⟩ => oFn f args.toList
  | _ => fun _ _ _ => no 84
def oNo : OpF := fun _ _ _ => no 83
def evOp (op : Op) : OpF := @Op.rec (fun _ => OpF) oMove oMove oPick oAlloc oBox oBuild oBuildSlice (fun _ _ _ _ => oNo) oLoad oStore (fun _ => oNo) (fun _ => oNo) oNil oBin oUn oConvert (fun _ _ => oNo) (fun _ _ => oNo) (fun _ _ _ => oNo) (fun _ _ => oNo) (fun _ _ => oNo) oMakeSlice oSlice oFieldAddr oField oIndexAddr oIndex (fun _ _ _ _ => oNo) (fun _ _ _ _ => oNo) (fun _ _ _ => oNo) (fun _ _ _ _ => oNo) (fun _ _ => oNo) (fun _ _ => oNo) (fun _ => oNo) (fun _ _ _ _ => oNo) oExtract oCall (fun _ => oNo) (fun _ => oNo) (fun _ => oNo) (fun _ _ => oNo) (fun _ _ _ => oNo) (fun _ _ => oNo) op
inductive Ex where
  | nm
  | ex (id : Nat)
  | rt
abbrev SF := Tab → Cal → Nat → List Oper → Tm → M Tm
def okTm (tm : Tm) (s : St) : R Tm := .ok tm s
def runO (dst : Option Tmp) (op : Op) : SF := fun T call kp _ tm s => @R.rec AV (fun _ => R Tm) (fun v s => tput kp dst v okTm tm s) R.no (evOp op T call tm s)
def skipO (dst : Option Tmp) : SF := fun _ _ kp _ tm => tput kp dst und okTm tm
/-- what the guard's operation has yielded -/
def yldV (v : AV) : Option Bool := @AV.rec (fun _ => Option Bool) (fun x => @Sc.rec (fun _ => Option Bool) (fun b => some b) (fun _ _ => none) (fun _ => none) (fun _ _ => none) (none) (fun _ _ _ _ => none) (none) (none) (fun _ => none) (fun _ _ => none) x) (fun _ => none) (fun _ => none) none v
def yldD (ops : List Oper) (j : Nat) : Option Tmp := @Option.rec _ (fun _ => Option Tmp) none (fun o => o.dst) (nth ops j)
def isU (v : AV) : Bool := @AV.rec (fun _ => Bool) (fun x => @Sc.rec (fun _ => Bool) (fun _ => false) (fun _ _ => false) (fun _ => false) (fun _ _ => false) (false) (fun _ _ _ _ => false) (false) (false) (fun _ => true) (fun _ _ => false) x) (fun _ => false) (fun _ => false) true v
def guarded (j : Nat) (want : Bool) (dst : Option Tmp) (op : Op) : SF := fun T call kp ops tm => @Option.rec _ (fun _ => M Tm) (no 85) (fun d => iff (isU (tget d tm)) (no 86) (@Option.rec _ (fun _ => M Tm) (skipO dst T call kp ops tm) (fun b => iff (beq2 b want) (runO dst op T call kp ops tm) (skipO dst T call kp ops tm)) (yldV (tget d tm)))) (yldD ops j)
def stepO (o : Oper) : SF := @Oper.rec (fun _ => SF) (fun dst op _ _ _ guard => @Option.rec _ (fun _ => SF) (runO dst op) (fun q => guarded q.1 q.2 dst op) guard) o
def stepsL (T : Tab) (call : Cal) (kp : Nat) (ops : List Oper) (l : List Oper) : Tm → M Tm := @List.rec Oper (fun _ => Tm → M Tm) okTm (fun o _ ih tm s => @R.rec Tm (fun _ => R Tm) ih R.no (stepO o T call kp ops tm s)) l
/-- what stands ahead of each operation -/
def ahead1 (bs : List Nat) : List Edge → Nat → Nat
  | [], m => m
  | e :: l, m => ahead1 bs l (iff (Region.binds .any e) (Nat.lor (Nat.lor m (bit e.on)) (@Option.rec _ (fun _ => Nat) 0 (fun x => x) (nth bs e.on))) m)
def aheads : List Oper → List Nat → List Nat
  | [], bs => bs
  | o :: l, bs => aheads l (bs ++ [ahead1 bs o.after.toList 0])
structure Lg where
  j : Nat
  rd : Nat
  wr : Nat
def clash (rd wr grd gwr : Nat) : Nat := Nat.lor (Nat.land gwr rd) (Nat.lor (Nat.land gwr wr) (Nat.land grd wr))
def apart (bf rd wr : Nat) (l : List Lg) : Bool := @List.rec Lg (fun _ => Bool) true (fun g _ ih => @Nat.rec (fun _ => Bool) (@Nat.rec (fun _ => Bool) ih (fun _ _ => false) (clash rd wr g.rd g.wr)) (fun _ _ => ih) (kept bf g.j)) l
def news (nx nx' : Nat) : Nat := Nat.sub (bit nx') (bit nx)
def forceS (s : St) (f : St → α) : α := @St.rec (fun _ => α) (fun h nx rd wr => forceN rd fun rd => forceN wr fun wr => f ⟨h, nx, rd, wr⟩) s
abbrev DF := List Nat → Nat → List Lg → Tm → M Tm
def oneD (again : DF) (bf : List Nat) (j : Nat) (lg : List Lg) (rd wr nx : Nat) (tm : Tm) (s' : St) : R Tm := @St.rec (fun _ => R Tm) (fun h' nx' rd' wr' => forceN rd' fun rd' => forceN wr' fun wr' =>
  iff (apart (headOr bf 0) rd' wr' lg) (again bf.tail (Nat.succ j) (⟨j, rd', Nat.lor wr' (news nx nx')⟩ :: lg) tm ⟨h', nx', Nat.lor rd rd', Nat.lor wr wr'⟩) (.no (Nat.add 1000 j))) s'
def stepD (T : Tab) (call : Cal) (kp : Nat) (ops : List Oper) (o : Oper) (again : DF) : DF := fun bf j lg tm s => @St.rec (fun _ => R Tm) (fun h nx rd wr => @R.rec Tm (fun _ => R Tm) (oneD again bf j lg rd wr nx) R.no (stepO o T call kp ops tm ⟨h, nx, 0, 0⟩)) s
def stepsD (T : Tab) (call : Cal) (kp : Nat) (ops : List Oper) (l : List Oper) : DF := @List.rec Oper (fun _ => DF) (fun _ _ _ tm => okTm tm) (fun o _ ih => stepD T call kp ops o ih) l
inductive EX where
  | nm (tm : Tm)
  | ex (id : Nat) (tm : Tm)
  | rt (tm : Tm)
abbrev CF := Tab → Cal → Nat → Tm → M EX
def okNm (tm : Tm) (s : St) : R EX := .ok (.nm tm) s
def clr (tm : Tm) : Tm := @Tm.rec (fun _ => Tm) (fun _ v => ⟨.nl, v⟩) tm
def cRegion (ops : Array Oper) (dr : Bool) : CF := fun T call kp tm s => @R.rec Tm (fun _ => R EX) okNm R.no (@Bool.rec (fun _ => M Tm) (stepsL T call kp ops.toList ops.toList (clr tm)) (stepsD T call kp ops.toList ops.toList (aheads ops.toList []) 0 [] (clr tm)) dr s)
def onNm (r : EX) (f : Tm → M EX) : M EX := @EX.rec (fun _ => M EX) f (fun i tm => ret (.ex i tm)) (fun tm => ret (.rt tm)) r
def cSeq (a b : CF) : CF := fun T call kp tm s => @R.rec EX (fun _ => R EX) (fun r => onNm r (b T call kp)) R.no (a T call kp tm s)
def cCond (x : Operand) (a b : CF) : CF := fun T call kp tm => avC 91 (evo x tm) fun s => scBy 91 s T.dec fun t => @Bool.rec (fun _ => M EX) (b T call kp tm) (a T call kp tm) t
def outOf (id : Nat) (r : EX) : M EX := @EX.rec (fun _ => M EX) (fun tm => ret (.nm tm)) (fun i tm => @Bool.rec (fun _ => M EX) (ret (.ex i tm)) (ret (.nm tm)) (Nat.beq i id)) (fun tm => ret (.rt tm)) r
def cBlock (id : Nat) (a : CF) : CF := fun T call kp tm s => @R.rec EX (fun _ => R EX) (outOf id) R.no (a T call kp tm s)
def loopF (a : Tm → M EX) (n : Nat) : Tm → M EX := @Nat.rec (fun _ => Tm → M EX) (fun _ => no 90) (fun _ ih tm s => @R.rec EX (fun _ => R EX) (fun r s => forceS s (onNm r ih)) R.no (a tm s)) n
def cLoop (a : CF) : CF := fun T call kp tm => loopF (a T call kp) 5000 tm
def cNo : CF := fun _ _ _ _ => no 92
def evC (c : Code) : CF := @Code.rec (fun _ => CF) (fun _ _ _ tm => ret (.nm tm)) (fun _ ops dr => cRegion ops dr) (fun _ _ a b => cSeq a b) (fun x _ _ a b => cCond x a b) (fun id _ a => cBlock id a) (fun _ a => cLoop a) (fun _ _ _ _ _ _ => cNo) (fun id _ _ _ tm => ret (.ex id tm)) (fun _ _ => cNo) (fun _ => cNo) (fun _ => cNo) (fun _ _ _ tm => ret (.rt tm)) (fun _ => cNo) c
def resV (r : ResultVar) (T : Tab) (tm : Tm) : M AV := match r with
  | .tmp t => ret (tget t tm)
  | .cell a t => oLoad t (.tmp a) T (fun _ _ => no 93) tm
def tcOf (v : AV) : Option TC := @AV.rec (fun _ => Option TC) (fun x => some (.c x)) (fun l => some (.ag l)) (fun _ => none) none v
def resVs (T : Tab) (tm : Tm) : List ResultVar → M (List TC)
  | [] => ret []
  | r :: l => bnd (resV r T tm) fun v => optm 94 (tcOf v) fun c => bnd (resVs T tm l) fun vs => ret (c :: vs)
def results (rs : List ResultVar) (T : Tab) (tm : Tm) : M AV := match rs with
  | [r] => resV r T tm
  | rs => bnd (resVs T tm rs) fun l => ret (.tp l)
def setAll (l : List AV) : Nat → Vs → (Vs → α) → α := @List.rec AV (fun _ => Nat → Vs → (Vs → α) → α) (fun _ t K => K t) (fun v _ ih i t K => set3 i v t fun t => ih (Nat.succ i) t K) l
def endF (T : Tab) (rs : List ResultVar) (r : EX) : M AV := @EX.rec (fun _ => M AV) (results rs T) (fun _ _ => no 96) (results rs T) r
/-- the parameters are kept -/
def keeps (kp n : Nat) : Bool := Nat.beq (Nat.land kp (Nat.pred (bit n))) (Nat.pred (bit n))
def bodyF (T : Tab) (call : Cal) (args : List AV) (kp : Nat) (fn : Func) : M AV := optm 95 fn.body fun c => iff (keeps kp args.length) (iff (Nat.ble args.length fn.ntmps) (iff (Nat.ble fn.ntmps 512) (setAll args 0 (full3 .u) fun v s => @R.rec EX (fun _ => R AV) (endF T fn.results.toList) R.no (evC c T call kp ⟨.nl, v⟩ s)) (no 98)) (no 98)) (no 99)
def evF (T : Tab) (n : Nat) : Cal := @Nat.rec (fun _ => Cal) (fun _ _ => no 97) (fun _ ih f args => @Option.rec _ (fun _ => M AV) (optm (Nat.add 10000 f) (T.f f) (bodyF T ih args (T.kp f))) (fun m => m) (T.hk f args)) n
end
end Ev
end Go.Proofs.YtjmifcnfnihhnaaGreatDoor
set_option linter.unusedVariables false
namespace Go.Proofs.YtjmifcnfnihhnaaGreatDoor
namespace Ev
section
variable {α β : Type}
theorem upd_K (i : Nat) (v : α) (K : N8 α → β) (t : N8 α) : upd i v K t = K (upd i v id t) := by
  obtain ⟨c0, c1, c2, c3, c4, c5, c6, c7⟩ := t
  rcases i with _ | _ | _ | _ | _ | _ | _ | i <;> rfl
theorem sel_upd {i j : Nat} (hi : i < 8) (hj : j < 8) (v : α) (t : N8 α) : sel j (upd i v id t) = if j = i then v else sel j t := by
  obtain ⟨c0, c1, c2, c3, c4, c5, c6, c7⟩ := t
  rcases i with _ | _ | _ | _ | _ | _ | _ | _ | i <;> rcases j with _ | _ | _ | _ | _ | _ | _ | _ | j <;> first | rfl | omega
theorem lvl {τ : Type} {g : Nat → τ → α} {st : ∀ {β : Type}, Nat → α → τ → (τ → β) → β} {m : Nat} (hm : 0 < m) (hK : ∀ {β : Type} (k : Nat) (v : α) (t : τ) (K : τ → β), st k v t K = K (st k v t id)) (hg : ∀ (j k : Nat) (v : α) (t : τ), j < m → k < m → g j (st k v t id) = if j = k then v else g j t) :
    (∀ {β : Type} (k : Nat) (v : α) (t : N8 τ) (K : N8 τ → β), st (k % m) v (sel (k / m) t) (fun c => upd (k / m) c K t) = K (st (k % m) v (sel (k / m) t) (fun c => upd (k / m) c id t))) ∧
    (∀ (j k : Nat) (v : α) (t : N8 τ), j < 8 * m → k < 8 * m → g (j % m) (sel (j / m) (st (k % m) v (sel (k / m) t) (fun c => upd (k / m) c id t))) = if j = k then v else g (j % m) (sel (j / m) t)) := by
  refine ⟨fun k v t K => ?_, fun j k v t hj hk => ?_⟩
  · rw [hK, hK (K := fun c => upd (k / m) c id t), upd_K]
  · rw [hK (K := fun c => upd (k / m) c id t)]
    have h1 : j / m < 8 := Nat.div_lt_of_lt_mul (by rw [Nat.mul_comm]; exact hj)
    have h2 : k / m < 8 := Nat.div_lt_of_lt_mul (by rw [Nat.mul_comm]; exact hk)
    rw [sel_upd h2 h1]
    by_cases hd : j / m = k / m
    · rw [if_pos hd, hg _ _ _ _ (Nat.mod_lt _ hm) (Nat.mod_lt _ hm)]
      by_cases hq : j % m = k % m
      · have : j = k := by rw [← Nat.div_add_mod j m, ← Nat.div_add_mod k m, hd, hq]
        rw [if_pos hq, if_pos this]
      · rw [if_neg hq, if_neg (fun e => hq (by rw [e])), hd]
    · rw [if_neg hd, if_neg (fun e => hd (by rw [e]))]
theorem l1 : (∀ {β : Type} (k : Nat) (v : α) (t : N8 α) (K : N8 α → β), set1 k v t K = K (set1 k v t id)) ∧ (∀ (j k : Nat) (v : α) (t : N8 α), j < 8 → k < 8 → get1 j (set1 k v t id) = if j = k then v else get1 j t) :=
  ⟨fun k v t K => upd_K k v K t, fun j k v t hj hk => sel_upd hk hj v t⟩
theorem l2 : (∀ {β : Type} (k : Nat) (v : α) (t : N8 (N8 α)) (K : N8 (N8 α) → β), set2 k v t K = K (set2 k v t id)) ∧ (∀ (j k : Nat) (v : α) (t : N8 (N8 α)), j < 64 → k < 64 → get2 j (set2 k v t id) = if j = k then v else get2 j t) :=
  lvl (g := get1) (st := set1) (m := 8) (by decide) l1.1 l1.2
theorem l3 : (∀ {β : Type} (k : Nat) (v : α) (t : N8 (N8 (N8 α))) (K : N8 (N8 (N8 α)) → β), set3 k v t K = K (set3 k v t id)) ∧ (∀ (j k : Nat) (v : α) (t : N8 (N8 (N8 α))), j < 512 → k < 512 → get3 j (set3 k v t id) = if j = k then v else get3 j t) :=
  lvl (g := get2) (st := set2) (m := 64) (by decide) l2.1 l2.2
theorem l4 : (∀ {β : Type} (k : Nat) (v : α) (t : N8 (N8 (N8 (N8 α)))) (K : N8 (N8 (N8 (N8 α))) → β), set4 k v t K = K (set4 k v t id)) ∧ (∀ (j k : Nat) (v : α) (t : N8 (N8 (N8 (N8 α)))), j < 4096 → k < 4096 → get4 j (set4 k v t id) = if j = k then v else get4 j t) :=
  lvl (g := get3) (st := set3) (m := 512) (by decide) l3.1 l3.2
theorem l5 : (∀ {β : Type} (k : Nat) (v : α) (t : N8 (N8 (N8 (N8 (N8 α))))) (K : N8 (N8 (N8 (N8 (N8 α)))) → β), set5 k v t K = K (set5 k v t id)) ∧ (∀ (j k : Nat) (v : α) (t : N8 (N8 (N8 (N8 (N8 α))))), j < 32768 → k < 32768 → get5 j (set5 k v t id) = if j = k then v else get5 j t) :=
  lvl (g := get4) (st := set4) (m := 4096) (by decide) l4.1 l4.2
theorem sel_all (j : Nat) (a : α) : sel j (all8 a) = a := by rcases j with _ | _ | _ | _ | _ | _ | _ | j <;> rfl
theorem full3_get (j : Nat) (a : α) : get3 j (full3 a) = a := by
  unfold get3 get2 get1 full3 full2; rw [sel_all, sel_all, sel_all]
theorem full5_get (j : Nat) (a : α) : get5 j (full5 a) = a := by
  unfold get5 get4 get3 get2 get1 full5 full4 full3 full2; rw [sel_all, sel_all, sel_all, sel_all, sel_all]
/-! lists as cells -/
theorem drp_eq (n : Nat) : ∀ l : List α, drp n l = l.drop n := by
  induction n with
  | zero => intro l; rfl
  | succ n ih =>
    intro l
    show drp n l.tail = _
    rw [ih]
    cases l <;> simp
theorem headOr_eq (l : List α) (a : α) : headOr l a = l.headD a := by cases l <;> rfl
theorem at_drop (l : List α) (z : α) (j : Nat) : headOr (drp j l) z = l.getD j z := by
  rw [drp_eq, headOr_eq, List.getD_eq_getElem?_getD, List.headD_eq_head?_getD, List.head?_drop]
theorem drp_drp (i j : Nat) (l : List α) : drp i (drp j l) = drp (j + i) l := by rw [drp_eq, drp_eq, drp_eq, List.drop_drop]
theorem ofL1_get {j : Nat} (hj : j < 8) (z : α) (l : List α) : get1 j (ofL1 z l) = l.getD j z := by
  rw [← at_drop]
  rcases j with _ | _ | _ | _ | _ | _ | _ | _ | j <;> first | rfl | omega
theorem sel_of {τ : Type} (f : Nat → τ) {j : Nat} (hj : j < 8) : sel j ⟨f 0, f 1, f 2, f 3, f 4, f 5, f 6, f 7⟩ = f j := by
  rcases j with _ | _ | _ | _ | _ | _ | _ | _ | j <;> first | rfl | omega
theorem ofL2_get {j : Nat} (hj : j < 64) (z : α) (l : List α) : get2 j (ofL2 z l) = l.getD j z := by
  show get1 (j % 8) (sel (j / 8) (ofL2 z l)) = _
  have h : sel (j / 8) (ofL2 z l) = ofL1 z (drp (8 * (j / 8)) l) := sel_of (fun i => ofL1 z (drp (8 * i) l)) (by omega)
  rw [h, ofL1_get (by omega), ← at_drop, drp_drp, at_drop, Nat.div_add_mod]
theorem ofL3_get {j : Nat} (hj : j < 512) (z : α) (l : List α) : get3 j (ofL3 z l) = l.getD j z := by
  show get2 (j % 64) (sel (j / 64) (ofL3 z l)) = _
  have h : sel (j / 64) (ofL3 z l) = ofL2 z (drp (64 * (j / 64)) l) := sel_of (fun i => ofL2 z (drp (64 * i) l)) (by omega)
  rw [h, ofL2_get (by omega), ← at_drop, drp_drp, at_drop, Nat.div_add_mod]
theorem ofL4_get {j : Nat} (hj : j < 4096) (z : α) (l : List α) : get4 j (ofL4 z l) = l.getD j z := by
  show get3 (j % 512) (sel (j / 512) (ofL4 z l)) = _
  have h : sel (j / 512) (ofL4 z l) = ofL3 z (drp (512 * (j / 512)) l) := sel_of (fun i => ofL3 z (drp (512 * i) l)) (by omega)
  rw [h, ofL3_get (by omega), ← at_drop, drp_drp, at_drop, Nat.div_add_mod]
end
/-! a block's cells -/
section
variable {β : Type}
theorem Cl.set_K (k : Nat) (v : Sc) (c : Cl) (K : Cl → β) : c.set k v K = K (c.set k v id) := by
  cases c with
  | c0 => rfl
  | c1 t => exact (l1.1 k v t _).trans (congrArg K (l1.1 k v t _).symm)
  | c2 t => exact (l2.1 k v t _).trans (congrArg K (l2.1 k v t _).symm)
  | c3 t => exact (l3.1 k v t _).trans (congrArg K (l3.1 k v t _).symm)
  | c4 t => exact (l4.1 k v t _).trans (congrArg K (l4.1 k v t _).symm)
  | pl i => exact (l1.1 k v (all8 .se) _).trans (congrArg K (l1.1 k v (all8 .se) _).symm)
theorem Cl.set_room (k : Nat) (v : Sc) (c : Cl) : (c.set k v id).room = c.room := by
  cases c with
  | c0 => rfl
  | c1 t => show (set1 k v t (fun t => Cl.c1 t)).room = _; rw [l1.1]; rfl
  | c2 t => show (set2 k v t (fun t => Cl.c2 t)).room = _; rw [l2.1]; rfl
  | c3 t => show (set3 k v t (fun t => Cl.c3 t)).room = _; rw [l3.1]; rfl
  | c4 t => show (set4 k v t (fun t => Cl.c4 t)).room = _; rw [l4.1]; rfl
  | pl i => show (set1 k v (all8 .se) (fun t => Cl.c1 t)).room = _; rw [l1.1]; rfl
theorem Cl.get_set {j k : Nat} (v : Sc) (c : Cl) (hj : j < c.room) (hk : k < c.room) : (c.set k v id).get j = if j = k then v else c.get j := by
  cases c with
  | c0 => exact absurd hj (Nat.not_lt_zero _)
  | c1 t => exact (congrArg (Cl.get j) (l1.1 k v t _)).trans (l1.2 j k v t hj hk)
  | c2 t => exact (congrArg (Cl.get j) (l2.1 k v t _)).trans (l2.2 j k v t hj hk)
  | c3 t => exact (congrArg (Cl.get j) (l3.1 k v t _)).trans (l3.2 j k v t hj hk)
  | c4 t => exact (congrArg (Cl.get j) (l4.1 k v t _)).trans (l4.2 j k v t hj hk)
  | pl i =>
    refine (congrArg (Cl.get j) (l1.1 k v (all8 .se) _)).trans ((l1.2 j k v (all8 .se) hj hk).trans ?_)
    split
    · rfl
    · exact sel_all j _
/-- a pool -/
noncomputable def plI (c : Cl) : Option Nat := @Cl.rec (fun _ => Option Nat) none (fun _ => none) (fun _ => none) (fun _ => none) (fun _ => none) some c
theorem plI_set (k : Nat) (v : Sc) (c : Cl) : plI (c.set k v id) = none := by
  cases c with
  | c0 => rfl
  | c1 t => show plI (set1 k v t (fun t => Cl.c1 t)) = _; rw [l1.1]; rfl
  | c2 t => show plI (set2 k v t (fun t => Cl.c2 t)) = _; rw [l2.1]; rfl
  | c3 t => show plI (set3 k v t (fun t => Cl.c3 t)) = _; rw [l3.1]; rfl
  | c4 t => show plI (set4 k v t (fun t => Cl.c4 t)) = _; rw [l4.1]; rfl
  | pl i => show plI (set1 k v (all8 .se) (fun t => Cl.c1 t)) = _; rw [l1.1]; rfl
theorem plI_of (n : Nat) (l : List Sc) : plI (ofC n l) = none := by
  unfold ofC
  cases Nat.ble n 8 <;> cases Nat.ble n 64 <;> cases Nat.ble n 512 <;> rfl
theorem storeF_K (l : List Sc) : ∀ (off : Nat) (t : Cl) (K : Cl → β), storeF l off t K = K (storeF l off t id) := by
  induction l with
  | nil => intro off t K; rfl
  | cons v l ih =>
    intro off t K
    show t.set off v (fun t => storeF l (off + 1) t K) = K (t.set off v (fun t => storeF l (off + 1) t id))
    rw [Cl.set_K, ih, Cl.set_K (K := fun t => storeF l (off + 1) t id)]
theorem storeF_cons (v : Sc) (l : List Sc) (off : Nat) (t : Cl) : storeF (v :: l) off t id = storeF l (off + 1) (t.set off v id) id := by
  show t.set off v (fun t => storeF l (off + 1) t id) = _
  rw [Cl.set_K]
theorem plI_store : ∀ (l : List Sc) (off : Nat) (t : Cl), l ≠ [] → plI (storeF l off t id) = none
  | [], _, _, h => absurd rfl h
  | [v], off, t, _ => by rw [storeF_cons]; exact plI_set _ _ _
  | v :: u :: l, off, t, _ => by rw [storeF_cons]; exact plI_store (u :: l) _ _ (by simp)
theorem storeF_room (l : List Sc) : ∀ (off : Nat) (t : Cl), (storeF l off t id).room = t.room := by
  induction l with
  | nil => intro off t; rfl
  | cons v l ih => intro off t; rw [storeF_cons, ih, Cl.set_room]
theorem storeF_get (l : List Sc) : ∀ (off : Nat) (t : Cl) {j : Nat}, j < t.room → off + l.length ≤ t.room → (storeF l off t id).get j = if off ≤ j ∧ j < off + l.length then l.getD (j - off) .se else t.get j := by
  induction l with
  | nil => intro off t j hj hl; rw [if_neg (by simp only [List.length_nil]; omega)]; rfl
  | cons v l ih =>
    intro off t j hj hl
    rw [List.length_cons] at hl ⊢
    rw [storeF_cons, ih (off + 1) (t.set off v id) (by rw [Cl.set_room]; exact hj) (by rw [Cl.set_room]; omega)]
    by_cases h1 : off + 1 ≤ j ∧ j < off + 1 + l.length
    · rw [if_pos h1, if_pos (by omega), show j - off = (j - (off + 1)) + 1 by omega, List.getD_cons_succ]
    · rw [if_neg h1, Cl.get_set v t hj (by omega)]
      by_cases h2 : j = off
      · rw [if_pos h2, if_pos (by omega), h2, Nat.sub_self, List.getD_cons_zero]
      · rw [if_neg h2, if_neg (by omega)]
theorem ofC_room (n : Nat) (l : List Sc) : 0 < (ofC n l).room ∧ (n ≤ 4096 → n ≤ (ofC n l).room) := by
  unfold ofC
  cases h1 : Nat.ble n 8 with
  | true => exact ⟨show 0 < 8 by omega, fun _ => show n ≤ 8 from Nat.le_of_ble_eq_true h1⟩
  | false =>
    cases h2 : Nat.ble n 64 with
    | true => exact ⟨show 0 < 64 by omega, fun _ => show n ≤ 64 from Nat.le_of_ble_eq_true h2⟩
    | false =>
      cases h3 : Nat.ble n 512 with
      | true => exact ⟨show 0 < 512 by omega, fun _ => show n ≤ 512 from Nat.le_of_ble_eq_true h3⟩
      | false => exact ⟨show 0 < 4096 by omega, fun h => h⟩
theorem ofC_get {n j : Nat} (l : List Sc) (hj : j < n) (hn : n ≤ 4096) : (ofC n l).get j = l.getD j .se := by
  unfold ofC
  cases h1 : Nat.ble n 8 with
  | true => have := Nat.le_of_ble_eq_true h1; exact ofL1_get (j := j) (by omega) .se l
  | false =>
    cases h2 : Nat.ble n 64 with
    | true => have := Nat.le_of_ble_eq_true h2; exact ofL2_get (j := j) (by omega) .se l
    | false =>
      cases h3 : Nat.ble n 512 with
      | true => have := Nat.le_of_ble_eq_true h3; exact ofL3_get (j := j) (by omega) .se l
      | false => exact ofL4_get (j := j) (by omega) .se l
theorem cellsF_get (t : Cl) (n : Nat) : ∀ off, (cellsF t n off).length = n ∧ ∀ j, j < n → (cellsF t n off)[j]? = some (t.get (off + j)) := by
  induction n with
  | zero => intro off; exact ⟨rfl, fun j h => by omega⟩
  | succ n ih =>
    intro off
    obtain ⟨h1, h2⟩ := ih (off + 1)
    refine ⟨by show (cellsF t n (off + 1)).length + 1 = _; rw [h1], fun j hj => ?_⟩
    cases j with
    | zero => rfl
    | succ j =>
      show (cellsF t n (off + 1))[j]? = _
      rw [h2 j (by omega), Nat.add_assoc, Nat.add_comm 1 j]
end
/-! heaps -/
noncomputable def hset (h : Hp) (i : Nat) (b : Bk) : Hp := set5 i b h fun x => x
theorem get_hset {h : Hp} {i j : Nat} {b : Bk} (hj : j < 32768) (hi : i < 32768) : get5 j (hset h i b) = if j = i then b else get5 j h := l5.2 j i b h hj hi
/-! what an answer came from -/
section
variable {α β γ : Type} {s s' : St} {a : α}
theorem no_ok {n : Nat} {P : Prop} (h : (R.no n : R α) = .ok a s') : P := by cases h
theorem ret_ok {b : α} (h : ret b s = .ok a s') : a = b ∧ s' = s := by cases h; exact ⟨rfl, rfl⟩
theorem iff_ok {c : Bool} {m n : M α} (h : iff c m n s = .ok a s') : (c = true ∧ m s = .ok a s') ∨ (c = false ∧ n s = .ok a s') := by
  cases c
  · exact .inr ⟨rfl, h⟩
  · exact .inl ⟨rfl, h⟩
theorem iff_no {c : Bool} {m : M α} {n : Nat} (h : iff c m (no n) s = .ok a s') : c = true ∧ m s = .ok a s' := by
  cases c
  · exact no_ok h
  · exact ⟨rfl, h⟩
theorem iff_on {c : Bool} {m : M α} {n : Nat} (h : iff c (no n) m s = .ok a s') : c = false ∧ m s = .ok a s' := by
  cases c
  · exact ⟨rfl, h⟩
  · exact no_ok h
theorem optm_ok {n : Nat} {o : Option β} {f : β → M α} (h : optm n o f s = .ok a s') : ∃ x, o = some x ∧ f x s = .ok a s' := by
  cases o
  · exact no_ok h
  · exact ⟨_, rfl, h⟩
theorem avC_ok {n : Nat} {v : AV} {f : Sc → M α} (h : avC n v f s = .ok a s') : ∃ x, v = .c x ∧ f x s = .ok a s' := by
  cases v
  case c x => exact ⟨x, rfl, h⟩
  all_goals exact no_ok h
theorem avA_ok {n : Nat} {v : AV} {f : List Sc → M α} (h : avA n v f s = .ok a s') : ∃ x, v = .ag x ∧ f x s = .ok a s' := by
  cases v
  case ag x => exact ⟨x, rfl, h⟩
  all_goals exact no_ok h
theorem scP_ok {n : Nat} {v : Sc} {f : Nat → Nat → M α} (h : scP n v f s = .ok a s') : ∃ b off, v = .p b off ∧ f b off s = .ok a s' := by
  cases v
  case p b off => exact ⟨b, off, rfl, h⟩
  all_goals exact no_ok h
theorem scI_ok {n : Nat} {v : Sc} {f : IntKind → Int → M α} (h : scI n v f s = .ok a s') : ∃ k z, v = .i k z ∧ f k z s = .ok a s' := by
  cases v
  case i k z => exact ⟨k, z, rfl, h⟩
  all_goals exact no_ok h
theorem scB_ok {n : Nat} {v : Sc} {f : Bool → M α} (h : scB n v f s = .ok a s') : ∃ b, v = .b b ∧ f b s = .ok a s' := by
  cases v
  case b b => exact ⟨b, rfl, h⟩
  all_goals exact no_ok h
theorem scSz_ok {n : Nat} {v : Sc} {g : Nat → M α} {f : List Nat → M α} (h : scSz n v g f s = .ok a s') : (∃ l, v = .s l ∧ f l s = .ok a s') ∨ ∃ j, v = .y j ∧ g j s = .ok a s' := by
  cases v
  case s l => exact .inl ⟨l, rfl, h⟩
  case y j => exact .inr ⟨j, rfl, h⟩
  all_goals exact no_ok h
theorem scBy_ok {n : Nat} {v : Sc} {d : Nat → Option Bool} {f : Bool → M α} (h : scBy n v d f s = .ok a s') : ∃ b, (v = .b b ∨ ∃ j, v = .y j ∧ d j = some b) ∧ f b s = .ok a s' := by
  cases v
  case b b => exact ⟨b, .inl rfl, h⟩
  case y j =>
    obtain ⟨b, hb, h⟩ := optm_ok h
    exact ⟨b, .inr ⟨j, rfl, hb⟩, h⟩
  all_goals exact no_ok h
theorem scSy_ok {n : Nat} {v : Sc} {d : Nat → Option Sc} {f : List Nat → M AV} {a : AV} (h : scSy n v d f s = .ok a s') : (∃ l, v = .s l ∧ f l s = .ok a s') ∨ ∃ j r, v = .y j ∧ d j = some r ∧ retC r s = .ok a s' := by
  cases v
  case s l => exact .inl ⟨l, rfl, h⟩
  case y j =>
    obtain ⟨b, hb, h⟩ := optm_ok h
    exact .inr ⟨j, b, rfl, hb, h⟩
  all_goals exact no_ok h
theorem scIy_ok {n : Nat} {v : Sc} {d : Nat → Option Sc} {f : IntKind → Int → M AV} {a : AV} (h : scIy n v d f s = .ok a s') : (∃ k z, v = .i k z ∧ f k z s = .ok a s') ∨ ∃ j r, v = .y j ∧ d j = some r ∧ retC r s = .ok a s' := by
  cases v
  case i k z => exact .inl ⟨k, z, rfl, h⟩
  case y j =>
    obtain ⟨b, hb, h⟩ := optm_ok h
    exact .inr ⟨j, b, rfl, hb, h⟩
  all_goals exact no_ok h
theorem scS_ok {n : Nat} {v : Sc} {f : List Nat → M α} (h : scS n v f s = .ok a s') : ∃ l, v = .s l ∧ f l s = .ok a s' := by
  cases v
  case s l => exact ⟨l, rfl, h⟩
  all_goals exact no_ok h
theorem scL_ok {n : Nat} {v : Sc} {f : Nat → Nat → Nat → Nat → M α} {z : M α} (h : scL n v f z s = .ok a s') : (∃ b off len sz, v = .sl b off len sz ∧ f b off len sz s = .ok a s') ∨ ((v = .sn ∨ v = .se) ∧ z s = .ok a s') := by
  cases v
  case sl b off len sz => exact .inl ⟨b, off, len, sz, rfl, h⟩
  case sn => exact .inr ⟨.inl rfl, h⟩
  case se => exact .inr ⟨.inr rfl, h⟩
  all_goals exact no_ok h
theorem intN_ok {n : Nat} {z : Int} {f : Nat → M α} (h : intN n z f s = .ok a s') : ∃ m : Nat, z = m ∧ f m s = .ok a s' := by
  cases z
  case ofNat m => exact ⟨m, rfl, h⟩
  case negSucc m => exact no_ok h
theorem atP_ok {n : Nat} {x : Operand} {tm : Tm} {f : Nat → Nat → M AV} {a : AV} (h : atP n x tm f s = .ok a s') : ∃ b off, evo x tm = .c (.p b off) ∧ f b off s = .ok a s' := by
  obtain ⟨y, e, h⟩ := avC_ok h
  obtain ⟨b, off, rfl, h⟩ := scP_ok h
  exact ⟨b, off, e, h⟩
theorem atN_ok {n : Nat} {x : Operand} {tm : Tm} {f : Nat → M AV} {a : AV} (h : atN n x tm f s = .ok a s') : ∃ k m, evo x tm = .c (.i k ((m : Nat) : Int)) ∧ f m s = .ok a s' := by
  obtain ⟨y, e, h⟩ := avC_ok h
  obtain ⟨k, z, rfl, h⟩ := scI_ok h
  obtain ⟨m, rfl, h⟩ := intN_ok h
  exact ⟨k, m, e, h⟩
theorem bnd_ok {m : M β} {f : β → M α} (h : bnd m f s = .ok a s') : ∃ b s1, m s = .ok b s1 ∧ f b s1 = .ok a s' := by
  unfold bnd at h
  cases hm : m s with
  | ok b s1 => rw [hm] at h; exact ⟨b, s1, rfl, h⟩
  | no n => rw [hm] at h; cases h
theorem rrec_ok {r : R β} {f : β → M α} (h : @R.rec β (fun _ => R α) f R.no r = .ok a s') : ∃ b s1, r = .ok b s1 ∧ f b s1 = .ok a s' := by
  cases r with
  | ok b s1 => exact ⟨b, s1, rfl, h⟩
  | no n => cases h
theorem look_ok' {id : Nat} {K : Bk → M α} (h : look id K s = .ok a s') : id < s.nx ∧ K (get5 id s.h) ⟨s.h, s.nx, s.rd ||| bit id, s.wr⟩ = .ok a s' := by
  cases s with
  | mk hh nx rd wr =>
    have h : @Bool.rec (fun _ => R α) (.no 1) (K (get5 id hh) ⟨hh, nx, Nat.lor rd (bit id), wr⟩) (Nat.blt id nx) = .ok a s' := h
    cases hb : Nat.blt id nx with
    | false => rw [hb] at h; cases h
    | true => rw [hb] at h; exact ⟨Nat.le_of_ble_eq_true hb, h⟩
theorem look_ok {id : Nat} {K : Bk → M α} (h : look id K s = .ok a s') : K (get5 id s.h) ⟨s.h, s.nx, s.rd ||| bit id, s.wr⟩ = .ok a s' := (look_ok' h).2
theorem put_ok' {id : Nat} {b : Bk} {K : M α} (h : put id b K s = .ok a s') : 8 ≤ id ∧ id < s.nx ∧ K ⟨hset s.h id b, s.nx, s.rd, s.wr ||| bit id⟩ = .ok a s' := by
  cases s with
  | mk hh nx rd wr =>
    have h : @Bool.rec (fun _ => R α) (.no 1) (@Bool.rec (fun _ => R α) (.no 1) (set5 id b hh fun h => K ⟨h, nx, rd, Nat.lor wr (bit id)⟩) (Nat.blt id nx)) (Nat.ble 8 id) = .ok a s' := h
    cases h8 : Nat.ble 8 id with
    | false => rw [h8] at h; cases h
    | true =>
      rw [h8] at h
      have h : @Bool.rec (fun _ => R α) (.no 1) (set5 id b hh fun h => K ⟨h, nx, rd, Nat.lor wr (bit id)⟩) (Nat.blt id nx) = .ok a s' := h
      cases hb : Nat.blt id nx with
      | false => rw [hb] at h; cases h
      | true => rw [hb] at h; exact ⟨Nat.le_of_ble_eq_true h8, Nat.le_of_ble_eq_true hb, (l5.1 id b _ _).symm.trans h⟩
theorem put_ok {id : Nat} {b : Bk} {K : M α} (h : put id b K s = .ok a s') : 8 ≤ id ∧ K ⟨hset s.h id b, s.nx, s.rd, s.wr ||| bit id⟩ = .ok a s' := ⟨(put_ok' h).1, (put_ok' h).2.2⟩
theorem fresh_ok {b : Bk} {K : Nat → M α} (h : fresh b K s = .ok a s') : s.nx < 32768 ∧ K s.nx ⟨hset s.h s.nx b, s.nx + 1, s.rd, s.wr⟩ = .ok a s' := by
  cases s with
  | mk hh nx rd wr =>
    unfold fresh at h
    simp only at h
    cases hb : Nat.blt nx 32768 with
    | false => rw [hb] at h; cases h
    | true =>
      rw [hb] at h
      exact ⟨Nat.le_of_ble_eq_true hb, (l5.1 nx b _ _).symm.trans h⟩
theorem newBlk_ok {l : List Sc} {K : Nat → M α} (h : newBlk l K s = .ok a s') : l.length ≤ 4096 ∧ s.nx < 32768 ∧ K s.nx ⟨hset s.h s.nx (Bk.of l), s.nx + 1, s.rd, s.wr⟩ = .ok a s' := by
  unfold newBlk at h
  cases hb : Nat.ble l.length 4096 with
  | false => rw [hb] at h; cases h
  | true => rw [hb] at h; exact ⟨Nat.le_of_ble_eq_true hb, fresh_ok h⟩
end
end Ev
end Go.Proofs.YtjmifcnfnihhnaaGreatDoor
set_option linter.unusedVariables false
namespace Go.Proofs.YtjmifcnfnihhnaaGreatDoor
namespace Ev
open Go.RowKit
/-! lists side by side -/
inductive All2 {α β : Type} (R : α → β → Prop) : List α → List β → Prop where
  | nil : All2 R [] []
  | cons {a : α} {b : β} {l : List α} {m : List β} : R a b → All2 R l m → All2 R (a :: l) (b :: m)
section
variable {α β : Type} {R : α → β → Prop}
theorem All2.len {l : List α} {m : List β} (h : All2 R l m) : l.length = m.length := by
  induction h with
  | nil => rfl
  | cons _ _ ih => rw [List.length_cons, List.length_cons, ih]
theorem All2.at {l : List α} {m : List β} (h : All2 R l m) : ∀ {j : Nat} {a : α}, l[j]? = some a → ∃ b, m[j]? = some b ∧ R a b := by
  induction h with
  | nil => intro j a e; cases j <;> cases e
  | cons hr _ ih =>
    intro j a e
    cases j with
    | zero => cases e; exact ⟨_, rfl, hr⟩
    | succ j => exact ih e
theorem All2.of : ∀ {l : List α} {m : List β}, l.length = m.length → (∀ (j : Nat) (a : α) (b : β), l[j]? = some a → m[j]? = some b → R a b) → All2 R l m
  | [], [], _, _ => .nil
  | a :: l, b :: m, h1, h2 => .cons (h2 0 a b rfl rfl) (All2.of (by simpa using h1) fun j x y hx hy => h2 (j + 1) x y hx hy)
  | [], _ :: _, h, _ => by cases h
  | _ :: _, [], h, _ => by cases h
theorem All2.mono {R' : α → β → Prop} {l : List α} {m : List β} (h : All2 R l m) (hr : ∀ a b, R a b → R' a b) : All2 R' l m := by
  induction h with
  | nil => exact .nil
  | cons h1 _ ih => exact .cons (hr _ _ h1) ih
theorem All2.app {l l' : List α} {m m' : List β} (h : All2 R l m) (h' : All2 R l' m') : All2 R (l ++ l') (m ++ m') := by
  induction h with
  | nil => exact h'
  | cons h1 _ ih => exact .cons h1 ih
theorem All2.take {l : List α} {m : List β} (h : All2 R l m) (n : Nat) : All2 R (l.take n) (m.take n) := by
  induction h generalizing n with
  | nil => rw [List.take_nil, List.take_nil]; exact .nil
  | cons h1 _ ih =>
    cases n with
    | zero => exact .nil
    | succ n => exact .cons h1 (ih n)
theorem All2.drop {l : List α} {m : List β} (h : All2 R l m) (n : Nat) : All2 R (l.drop n) (m.drop n) := by
  induction h generalizing n with
  | nil => rw [List.drop_nil, List.drop_nil]; exact .nil
  | cons h1 h2 ih =>
    cases n with
    | zero => exact .cons h1 h2
    | succ n => exact ih n
end
/-! values -/
abbrev Rh := Nat → Option (Nat × Nat)
/-! a pool: the numbers that were asked for, each once -/
def intV : Value → Int
  | .int _ n => n
  | _ => 0
/-- the i-th number that is asked for -/
def pI (env : Nat → Value) (i : Nat) : Int := intV (env (3000 + i))
def ddI (env : Nat → Value) : Nat → List Int
  | 0 => []
  | i + 1 => if pI env i ∈ ddI env i then ddI env i else ddI env i ++ [pI env i]
def PlOk (env : Nat → Value) (c : Cl) (arr : Array Value) : Prop := ∀ i, plI c = some i → ∀ (j : Nat) (n : Int), (ddI env i)[j]? = some n → arr[j]? = some (.int .i64 n)
theorem PlOk.no {env : Nat → Value} {c : Cl} {arr : Array Value} (h : plI c = none) : PlOk env c arr := fun i e => by rw [h] at e; cases e
section
variable (env : Nat → Value) (ρ : Rh)
def VS : Sc → Value → Prop
  | .b x, v => v = .bool x
  | .i k n, v => v = .int k n
  | .s l, v => ∃ s : ByteArray, v = .string s ∧ s.data.toList.map (·.toNat) = l
  | .p b off, v => ∃ k z, ρ b = some (k, z) ∧ v = .pointer (some ⟨k, off, none⟩)
  | .pn, v => v = .pointer none
  | .sl b off len sz, v => ∃ k z cap, ρ b = some (k, z) ∧ v = .slice (some ⟨k, off, none⟩) len cap ∧ len ≤ cap ∧ off + cap * sz ≤ z
  | .sn, v => v = .slice none 0 0
  | .se, v => ∃ a cap, v = .slice a 0 cap
  | .y j, v => v = env j
  | .ps b i, v => ∃ k z cap, ρ b = some (k, z) ∧ v = .slice (some ⟨k, 0, none⟩) (ddI env i).length cap ∧ (ddI env i).length ≤ cap ∧ cap ≤ z
def VT : TC → Value → Prop
  | .c x, v => VS env ρ x v
  | .ag l, v => ∃ arr : Array Value, v = .agg arr ∧ All2 (VS env ρ) l arr.toList
def VA : AV → Value → Prop
  | .c x, v => VS env ρ x v
  | .ag l, v => ∃ arr : Array Value, v = .agg arr ∧ All2 (VS env ρ) l arr.toList
  | .tp l, v => ∃ arr : Array Value, v = .tuple arr ∧ All2 (VT env ρ) l arr.toList
  | .u, _ => True
end
def Ext (ρ ρ' : Rh) : Prop := ∀ i x, ρ i = some x → ρ' i = some x
theorem Ext.refl (ρ : Rh) : Ext ρ ρ := fun _ _ h => h
theorem Ext.trans {ρ ρ' ρ'' : Rh} (h : Ext ρ ρ') (h' : Ext ρ' ρ'') : Ext ρ ρ'' := fun i x e => h' i x (h i x e)
section
variable {env : Nat → Value} {ρ ρ' : Rh}
theorem VS.ext (he : Ext ρ ρ') : ∀ {x : Sc} {v : Value}, VS env ρ x v → VS env ρ' x v
  | .b _, _, h => h
  | .i _ _, _, h => h
  | .s _, _, h => h
  | .p _ _, _, ⟨k, z, h, e⟩ => ⟨k, z, he _ _ h, e⟩
  | .pn, _, h => h
  | .sl _ _ _ _, _, ⟨k, z, c, h, e⟩ => ⟨k, z, c, he _ _ h, e⟩
  | .sn, _, h => h
  | .se, _, h => h
  | .y _, _, h => h
  | .ps _ _, _, ⟨k, z, c, h, e⟩ => ⟨k, z, c, he _ _ h, e⟩
theorem VT.ext (he : Ext ρ ρ') : ∀ {x : TC} {v : Value}, VT env ρ x v → VT env ρ' x v
  | .c _, _, h => VS.ext he h
  | .ag _, _, ⟨arr, e, h⟩ => ⟨arr, e, h.mono fun _ _ h => VS.ext he h⟩
theorem VA.ext (he : Ext ρ ρ') : ∀ {x : AV} {v : Value}, VA env ρ x v → VA env ρ' x v
  | .c _, _, h => VS.ext he h
  | .ag _, _, ⟨arr, e, h⟩ => ⟨arr, e, h.mono fun _ _ h => VS.ext he h⟩
  | .tp _, _, ⟨arr, e, h⟩ => ⟨arr, e, h.mono fun _ _ h => VT.ext he h⟩
  | .u, _, _ => trivial
/-- what is not known is one cell -/
def EnvOk (env : Nat → Value) : Prop := ∀ j, (env j).oneCell' = true
theorem VS.one (hn : EnvOk env) : ∀ {x : Sc} {v : Value}, VS env ρ x v → v.oneCell' = true
  | .b _, _, h => by rw [h]; rfl
  | .i _ _, _, h => by rw [h]; rfl
  | .s _, _, ⟨s, h, _⟩ => by rw [h]; rfl
  | .p _ _, _, ⟨k, z, _, h⟩ => by rw [h]; rfl
  | .pn, _, h => by rw [h]; rfl
  | .sl _ _ _ _, _, ⟨k, z, c, _, h, _⟩ => by rw [h]; rfl
  | .sn, _, h => by rw [h]; rfl
  | .se, _, ⟨a, c, h⟩ => by rw [h]; rfl
  | .y j, _, h => by rw [h]; exact hn j
  | .ps _ _, _, ⟨k, z, c, _, h, _⟩ => by rw [h]; rfl
theorem one_cells {v : Value} (h : v.oneCell' = true) : v.cells = #[v] := by cases v <;> first | rfl | cases h
theorem VS.cells (hn : EnvOk env) {x : Sc} {v : Value} (h : VS env ρ x v) : v.cells.toList = [v] := by rw [one_cells (h.one hn)]
theorem cellsOf_V (hn : EnvOk env) {a : AV} {v : Value} (h : VA env ρ a v) {l : List Sc} (hl : cellsOf a = some l) : All2 (VS env ρ) l v.cells.toList := by
  cases a with
  | c x =>
    cases hl
    have h : VS env ρ x v := h
    rw [VS.cells hn h]
    exact .cons h .nil
  | ag m =>
    cases hl
    obtain ⟨arr, rfl, h⟩ := h
    exact h
  | tp m => cases hl
  | u => cases hl
theorem scOf_V {v : Value} {x : Sc} (h : scOf v = some x) : VS env ρ x v := by
  unfold scOf at h
  split at h
  · cases h; rfl
  · cases h; rfl
  · cases h; exact ⟨_, rfl, rfl⟩
  · cases h; rfl
  · cases h; rfl
  · cases h
theorem scsOf_V : ∀ {l : List Value} {m : List Sc}, scsOf l = some m → All2 (VS env ρ) m l
  | [], m, h => by cases h; exact .nil
  | v :: l, m, h => by
    unfold scsOf at h
    split at h
    · rename_i x hx
      split at h
      · rename_i m' hm
        cases h
        exact .cons (scOf_V hx) (scsOf_V hm)
      · cases h
    · cases h
theorem ofV_V (v : Value) : VA env ρ (ofV v) v := by
  unfold ofV
  split
  · rename_i l
    split
    · rename_i m hm
      exact ⟨⟨l⟩, rfl, scsOf_V hm⟩
    · trivial
  · exact ⟨#[], rfl, .nil⟩
  · split
    · rename_i x hx
      exact scOf_V hx
    · trivial
end
/-! memory -/
def Live (h : Hp) (i : Nat) : Prop := i < 32768 ∧ 0 < (get5 i h).t.room
structure BR (env : Nat → Value) (ρ : Rh) (B : Bk) (i : Nat) (w : World) : Prop where
  ex : ∃ k arr ty lo hi, ρ i = some (k, arr.size) ∧ w.heap[k]? = some (.cells arr ty (lo, hi)) ∧ (i < 8 ∨ lo = hi ∨ arr.size ≤ lo) ∧ B.n ≤ arr.size ∧ B.n ≤ B.t.room ∧ (∀ j, j < B.n → ∃ v, arr[j]? = some v ∧ VS env ρ (B.t.get j) v) ∧ PlOk env B.t arr
structure HR (env : Nat → Value) (ρ : Rh) (h : Hp) (w : World) : Prop where
  blk : ∀ i, Live h i → BR env ρ (get5 i h) i w
  ded : ∀ i, i < 32768 → (get5 i h).t.room = 0 → (get5 i h).n = 0
  inj : ∀ i j k z z', Live h i → Live h j → ρ i = some (k, z) → ρ j = some (k, z') → i = j
  dom : ∀ i x, ρ i = some x → i < 32768
/-- what has become of memory -/
structure Post (env : Nat → Value) (ρ : Rh) (h : Hp) (n : Nat) (w : World) (ρ' : Rh) (h' : Hp) (n' : Nat) (w' : World) : Prop where
  ext : Ext ρ ρ'
  new : ∀ i x, ρ' i = some x → ρ i = some x ∨ (n ≤ i ∧ i < n')
  hr : HR env ρ' h' w'
  keep : ∀ k, k < w.heap.size → (∀ i z, Live h i → ρ i ≠ some (k, z)) → w'.heap[k]? = w.heap[k]?
  orig : ∀ i k z, Live h' i → ρ' i = some (k, z) → k < w.heap.size → ∃ j z', Live h j ∧ ρ j = some (k, z')
  low : Below 0 w w'
  ro : ∀ g k z, g < 8 → Live h g → ρ g = some (k, z) → Live h' g ∧ w'.heap[k]? = w.heap[k]?
/-- the numbers from n on are free -/
def Free (ρ : Rh) (n n' : Nat) : Prop := ∀ i, n ≤ i → i < n' → ρ i = none
section
variable {env : Nat → Value} {ρ ρ' ρ'' : Rh} {h h' h'' : Hp} {n n' n'' : Nat} {w w' w'' : World}
theorem Post.size (h1 : Post env ρ h n w ρ' h' n' w') : w.heap.size ≤ w'.heap.size := h1.low.size
theorem Post.refl (hr : HR env ρ h w) (n : Nat) : Post env ρ h n w ρ h n w :=
  ⟨Ext.refl _, fun i x e => .inl e, hr, fun _ _ _ => rfl, fun i k z hl e _ => ⟨i, z, hl, e⟩, Below.refl _ _, fun g k z _ hl _ => ⟨hl, rfl⟩⟩
theorem Post.trans (h1 : Post env ρ h n w ρ' h' n' w') (h2 : Post env ρ' h' n' w' ρ'' h'' n'' w'') (hn : n ≤ n') (hn' : n' ≤ n'') : Post env ρ h n w ρ'' h'' n'' w'' := by
  refine ⟨h1.ext.trans h2.ext, fun i x e => ?_, h2.hr, fun k hk hl => ?_, fun i k z hl e hk => ?_, h1.low.trans h2.low, fun g k z hg hl e => ?_⟩
  · rcases h2.new i x e with e | e
    · rcases h1.new i x e with e | e
      · exact .inl e
      · exact .inr ⟨e.1, by omega⟩
    · exact .inr ⟨by omega, e.2⟩
  · rw [h2.keep k (Nat.lt_of_lt_of_le hk h1.size) (fun i z hi e => ?_), h1.keep k hk hl]
    obtain ⟨j, z', hj, e'⟩ := h1.orig i k z hi e hk
    exact hl j z' hj e'
  · obtain ⟨j, z', hj, e'⟩ := h2.orig i k z hl e (Nat.lt_of_lt_of_le hk h1.size)
    exact h1.orig j k z' hj e' hk
  · obtain ⟨q1, q2⟩ := h1.ro g k z hg hl e
    obtain ⟨q3, q4⟩ := h2.ro g k z hg q1 (h1.ext _ _ e)
    exact ⟨q3, q4.trans q2⟩
theorem Free.step (h1 : Post env ρ h n w ρ' h' n' w') (hf : Free ρ n n'') (hn : n ≤ n') (hn' : n' ≤ n'') : Free ρ' n' n'' := fun i hi hi' => by
  cases e : ρ' i with
  | none => rfl
  | some x =>
    rcases h1.new i x e with e | e
    · rw [hf i (by omega) hi'] at e; cases e
    · omega
theorem Free.sub (hf : Free ρ n n'') (hn : n' ≤ n'') : Free ρ n n' := fun i hi hi' => hf i hi (by omega)
theorem HR.lt (hr : HR env ρ h w) {i k z : Nat} (hl : Live h i) (e : ρ i = some (k, z)) : k < w.heap.size := by
  obtain ⟨k', arr, ty, lo, hi, e', hb, _⟩ := (hr.blk i hl).ex
  rw [e] at e'
  cases e'
  exact (Array.getElem?_eq_some_iff.1 hb).1
theorem BR.ext {B : Bk} {i : Nat} (hb : BR env ρ B i w) (he : Ext ρ ρ') (hw : ∀ k z, ρ i = some (k, z) → w'.heap[k]? = w.heap[k]?) : BR env ρ' B i w' := by
  obtain ⟨k, arr, ty, lo, hi, e, h1, h2, h3, h4, h5, h6⟩ := hb.ex
  exact ⟨k, arr, ty, lo, hi, he _ _ e, (hw _ _ e).trans h1, h2, h3, h4, fun j hj => by obtain ⟨v, e1, e2⟩ := h5 j hj; exact ⟨v, e1, e2.ext he⟩, h6⟩
/-- nothing but the draws has turned -/
theorem HR.same (hr : HR env ρ h w) (hw : w'.heap = w.heap) : HR env ρ h w' := ⟨fun i hl => (hr.blk i hl).ext (Ext.refl _) (fun k z _ => by rw [hw]), hr.ded, hr.inj, hr.dom⟩
/-- a block's cells have been written -/
theorem Post.write (hr : HR env ρ h w) (n : Nat) {i k : Nat} {B : Bk} (h8 : 8 ≤ i) (hl : Live h i) (hro : B.t.room = (get5 i h).t.room) (hk : ∃ z, ρ i = some (k, z)) (hB : BR env ρ B i w') (hw : ∀ j, j ≠ k → w'.heap[j]? = w.heap[j]?) (hsz : Below 0 w w') :
    Post env ρ h n w ρ (hset h i B) n w' := by
  obtain ⟨z, hk⟩ := hk
  have hlv : ∀ j, Live (hset h i B) j ↔ Live h j := fun j => by
    unfold Live
    refine and_congr_right fun hj => ?_
    rw [get_hset hj hl.1]
    by_cases e : j = i
    · rw [if_pos e, e, hro]
    · rw [if_neg e]
  refine ⟨Ext.refl _, fun i x e => .inl e, ⟨fun j hj => ?_, fun j hj hd => ?_, fun j j' k z z' h1 h2 => hr.inj j j' k z z' ((hlv j).1 h1) ((hlv j').1 h2), hr.dom⟩, fun j hj hn => hw j (fun e => hn i z hl (by rw [e]; exact hk)), fun j k z hj e _ => ⟨j, z, (hlv j).1 hj, e⟩, hsz, fun g k' z' hg hlg e => ⟨(hlv g).2 hlg, hw k' fun ek => by have := hr.inj g i k z' z hlg hl (by rw [← ek]; exact e) hk; omega⟩⟩
  · rw [get_hset hj.1 hl.1]
    by_cases e : j = i
    · rw [if_pos e, e]; exact hB
    · rw [if_neg e]
      exact (hr.blk j ((hlv j).1 hj)).ext (Ext.refl _) fun k' z' e' => hw k' fun ek => e (hr.inj j i k z' z ((hlv j).1 hj) hl (by rw [← ek]; exact e') hk)
  · rw [get_hset hj hl.1] at hd ⊢
    by_cases e : j = i
    · rw [if_pos e] at hd
      have := hl.2
      omega
    · rw [if_neg e] at hd ⊢
      exact hr.ded j hj hd
def upR (ρ : Rh) (i : Nat) (x : Nat × Nat) : Rh := fun j => if j = i then some x else ρ j
theorem upR_ext (hn : ρ n = none) (x : Nat × Nat) : Ext ρ (upR ρ n x) := fun i y e => by
  unfold upR
  rw [if_neg (fun e' => by rw [e', hn] at e; cases e)]
  exact e
theorem upR_new (ρ : Rh) (n : Nat) (x : Nat × Nat) : upR ρ n x n = some x := if_pos rfl
theorem upR_old {ρ : Rh} {i n : Nat} {x : Nat × Nat} (h : i ≠ n) : upR ρ n x i = ρ i := if_neg h
theorem upR_inv {ρ : Rh} {i n : Nat} {x y : Nat × Nat} (h : upR ρ n x i = some y) : (i = n ∧ y = x) ∨ (i ≠ n ∧ ρ i = some y) := by
  by_cases e : i = n
  · rw [e, upR_new] at h; cases h; exact .inl ⟨e, rfl⟩
  · rw [upR_old e] at h; exact .inr ⟨e, h⟩
/-- a new block: nobody's yet -/
theorem Post.make (hr : HR env ρ h w) (hn : n < 32768) (hf : ρ n = none) {B : Bk} (hro : 0 < B.t.room) {arr : Array Value} {ty : TypeId} (hk : w'.heap[w.heap.size]? = some (.cells arr ty (0, 0))) (hw : ∀ j, j < w.heap.size → w'.heap[j]? = w.heap[j]?) (hsz : Below 0 w w')
    (h1 : B.n ≤ arr.size) (h2 : B.n ≤ B.t.room) (h3 : ∀ j, j < B.n → ∃ v, arr[j]? = some v ∧ VS env ρ (B.t.get j) v) (hpl : PlOk env B.t arr) :
    Post env ρ h n w (upR ρ n (w.heap.size, arr.size)) (hset h n B) (n + 1) w' := by
  have he := upR_ext hf (w.heap.size, arr.size)
  have hlv : ∀ j, Live (hset h n B) j → j ≠ n → Live h j := fun j hj e => ⟨hj.1, by have := hj.2; rw [get_hset hj.1 hn, if_neg e] at this; exact this⟩
  have hnl : ¬ Live h n := fun hl => by
    obtain ⟨k, arr, ty, lo, hi, e, _⟩ := (hr.blk n hl).ex
    rw [hf] at e; cases e
  refine ⟨he, fun i x e => ?_, ⟨fun j hj => ?_, fun j hj hd => ?_, fun j j' k z z' hj hj' e e' => ?_, fun i x e => ?_⟩, fun j hj _ => hw j hj, fun j k z hj e hk => ?_, hsz, fun g k z hg hlg e => ⟨⟨hlg.1, by rw [get_hset hlg.1 hn, if_neg (fun e' => hnl (by rw [← e']; exact hlg))]; exact hlg.2⟩, hw k (hr.lt hlg e)⟩⟩
  · rcases upR_inv e with ⟨e, _⟩ | ⟨_, e⟩
    · exact .inr ⟨by omega, by omega⟩
    · exact .inl e
  · rw [get_hset hj.1 hn]
    by_cases e : j = n
    · rw [if_pos e, e]
      exact ⟨w.heap.size, arr, ty, 0, 0, upR_new _ _ _, hk, .inr (.inl rfl), h1, h2, fun j hj => by obtain ⟨v, e1, e2⟩ := h3 j hj; exact ⟨v, e1, e2.ext he⟩, hpl⟩
    · rw [if_neg e]
      exact (hr.blk j (hlv j hj e)).ext he fun k z e' => hw k (hr.lt (hlv j hj e) e')
  · rw [get_hset hj hn] at hd ⊢
    by_cases e : j = n
    · rw [if_pos e] at hd; omega
    · rw [if_neg e] at hd ⊢; exact hr.ded j hj hd
  · rcases upR_inv e with ⟨e1, e2⟩ | ⟨e1, e2⟩ <;> rcases upR_inv e' with ⟨e3, e4⟩ | ⟨e3, e4⟩
    · rw [e1, e3]
    · cases e2
      have := hr.lt (hlv j' hj' e3) e4
      omega
    · cases e4
      have := hr.lt (hlv j hj e1) e2
      omega
    · exact hr.inj j j' k z z' (hlv j hj e1) (hlv j' hj' e3) e2 e4
  · rcases upR_inv e with ⟨e1, e2⟩ | ⟨e1, e2⟩
    · rw [e1]; exact hn
    · exact hr.dom i x e2
  · rcases upR_inv e with ⟨e1, e2⟩ | ⟨e1, e2⟩
    · cases e2; omega
    · exact ⟨j, z, hlv j hj e1, e2⟩
/-- a block is given up -/
theorem Post.kill (hr : HR env ρ h w) (n : Nat) {i : Nat} (h8 : 8 ≤ i) (hi : i < 32768) : Post env ρ h n w ρ (hset h i dead) n w := by
  have hlv : ∀ j, Live (hset h i dead) j → j ≠ i ∧ Live h j := fun j hj => by
    have := hj.2
    rw [get_hset hj.1 hi] at this
    by_cases e : j = i
    · rw [if_pos e] at this; exact absurd this (Nat.not_lt_zero _)
    · rw [if_neg e] at this; exact ⟨e, hj.1, this⟩
  refine ⟨Ext.refl _, fun i x e => .inl e, ⟨fun j hj => ?_, fun j hj hd => ?_, fun j j' k z z' h1 h2 => hr.inj j j' k z z' (hlv j h1).2 (hlv j' h2).2, hr.dom⟩, fun _ _ _ => rfl, fun j k z hj e _ => ⟨j, z, (hlv j hj).2, e⟩, Below.refl _ _, fun g k z hg hlg e => ⟨⟨hlg.1, by rw [get_hset hlg.1 hi, if_neg (by omega)]; exact hlg.2⟩, rfl⟩⟩
  · rw [get_hset hj.1 hi, if_neg (hlv j hj).1]
    exact hr.blk j (hlv j hj).2
  · rw [get_hset hj hi] at hd ⊢
    by_cases e : j = i
    · rw [if_pos e]; rfl
    · rw [if_neg e] at hd ⊢; exact hr.ded j hj hd
/-- a row has grown where it lies: it has another number now -/
theorem Post.move (hr : HR env ρ h w) (hn : n < 32768) (hf : ρ n = none) {i k : Nat} (h8 : 8 ≤ i) (hl : Live h i) {B : Bk} (hro : 0 < B.t.room) {arr : Array Value} {ty : TypeId} {lo hi : Nat} (hk : ρ i = some (k, arr.size)) (hb : w'.heap[k]? = some (.cells arr ty (lo, hi))) (hz : lo = hi ∨ arr.size ≤ lo)
    (hw : ∀ j, j ≠ k → w'.heap[j]? = w.heap[j]?) (hsz : Below 0 w w') (h1 : B.n ≤ arr.size) (h2 : B.n ≤ B.t.room) (h3 : ∀ j, j < B.n → ∃ v, arr[j]? = some v ∧ VS env ρ (B.t.get j) v) (hpl : PlOk env B.t arr) :
    Post env ρ h n w (upR ρ n (k, arr.size)) (hset (hset h i dead) n B) (n + 1) w' := by
  have he := upR_ext hf (k, arr.size)
  have hin : i ≠ n := fun e => by rw [e, hf] at hk; cases hk
  have hg' : ∀ j, j < 32768 → get5 j (hset (hset h i dead) n B) = if j = n then B else if j = i then dead else get5 j h := fun j hj => by rw [get_hset hj hn, get_hset hj hl.1]
  have hlv : ∀ j, Live (hset (hset h i dead) n B) j → j ≠ n → j ≠ i ∧ Live h j := fun j hj e => by
    have := hj.2
    rw [hg' j hj.1, if_neg e] at this
    by_cases e' : j = i
    · rw [if_pos e'] at this; exact absurd this (Nat.not_lt_zero _)
    · rw [if_neg e'] at this; exact ⟨e', hj.1, this⟩
  refine ⟨he, fun j x e => ?_, ⟨fun j hj => ?_, fun j hj hd => ?_, fun j j' k' z z' hj hj' e e' => ?_, fun j x e => ?_⟩, fun j hj hnl => hw j (fun e => hnl i arr.size hl (by rw [e]; exact hk)), fun j k' z hj e hk' => ?_, hsz, fun g k' z hg hlg e => ⟨⟨hlg.1, ?_⟩, hw k' fun ek => by have := hr.inj g i k z _ hlg hl (by rw [← ek]; exact e) hk; omega⟩⟩
  · rcases upR_inv e with ⟨e, _⟩ | ⟨_, e⟩
    · exact .inr ⟨by omega, by omega⟩
    · exact .inl e
  · rw [hg' j hj.1]
    by_cases e : j = n
    · rw [if_pos e, e]
      exact ⟨k, arr, ty, lo, hi, upR_new _ _ _, hb, .inr hz, h1, h2, fun j hj => by obtain ⟨v, e1, e2⟩ := h3 j hj; exact ⟨v, e1, e2.ext he⟩, hpl⟩
    · obtain ⟨e1, e2⟩ := hlv j hj e
      rw [if_neg e, if_neg e1]
      exact (hr.blk j e2).ext he fun k' z' e' => hw k' fun ek => e1 (hr.inj j i k z' _ e2 hl (by rw [← ek]; exact e') hk)
  · rw [hg' j hj] at hd ⊢
    by_cases e : j = n
    · rw [if_pos e] at hd; omega
    · rw [if_neg e] at hd ⊢
      by_cases e' : j = i
      · rw [if_pos e']; rfl
      · rw [if_neg e'] at hd ⊢; exact hr.ded j hj hd
  · rcases upR_inv e with ⟨e1, e2⟩ | ⟨e1, e2⟩ <;> rcases upR_inv e' with ⟨e3, e4⟩ | ⟨e3, e4⟩
    · rw [e1, e3]
    · cases e2
      obtain ⟨h5, h6⟩ := hlv j' hj' e3
      exact absurd (hr.inj j' i k z' _ h6 hl e4 hk) h5
    · cases e4
      obtain ⟨h5, h6⟩ := hlv j hj e1
      exact absurd (hr.inj j i k z _ h6 hl e2 hk) h5
    · exact hr.inj j j' k' z z' (hlv j hj e1).2 (hlv j' hj' e3).2 e2 e4
  · rcases upR_inv e with ⟨e1, e2⟩ | ⟨e1, e2⟩
    · rw [e1]; exact hn
    · exact hr.dom j x e2
  · rcases upR_inv e with ⟨e1, e2⟩ | ⟨e1, e2⟩
    · cases e2; exact ⟨i, _, hl, hk⟩
    · exact ⟨j, z, (hlv j hj e1).2, e2⟩
  · rw [hg' g hlg.1, if_neg (fun e' => by rw [e', hf] at e; cases e), if_neg (by omega)]
    exact hlg.2
end
/-! cells of a block, written one by one -/
def ovr (arr : Array Value) : Nat → List Value → Array Value
  | _, [] => arr
  | o, v :: r => ovr (arr.setIfInBounds o v) (o + 1) r
theorem ovr_size : ∀ (vs : List Value) (o : Nat) (arr : Array Value), (ovr arr o vs).size = arr.size
  | [], _, _ => rfl
  | v :: r, o, arr => by unfold ovr; rw [ovr_size r, Array.size_setIfInBounds]
theorem ovr_at : ∀ (vs : List Value) (o : Nat) (arr : Array Value) (j : Nat), o + vs.length ≤ arr.size → (ovr arr o vs)[j]? = if o ≤ j ∧ j < o + vs.length then vs[j - o]? else arr[j]?
  | [], o, arr, j, h => by rw [if_neg (by simp only [List.length_nil]; omega)]; rfl
  | v :: r, o, arr, j, h => by
    rw [List.length_cons] at h ⊢
    unfold ovr
    rw [ovr_at r (o + 1) _ j (by rw [Array.size_setIfInBounds]; omega)]
    by_cases h1 : o + 1 ≤ j ∧ j < o + 1 + r.length
    · rw [if_pos h1, if_pos (by omega), show j - o = (j - (o + 1)) + 1 by omega, List.getElem?_cons_succ]
    · rw [if_neg h1]
      by_cases h2 : j = o
      · rw [if_pos (by omega), h2, Nat.sub_self, List.getElem?_cons_zero, Array.getElem?_setIfInBounds_self_of_lt (by omega)]
      · rw [if_neg (by omega), Array.getElem?_setIfInBounds_ne (fun e => h2 e.symm)]
theorem setCells_low (b : Nat) : ∀ (vs : List Value) (o : Nat) (w : World), Below 0 w (w.setCells b o vs)
  | [], _, w => Below.refl _ _
  | v :: r, o, w => ((Below.refl 0 w).setCell (Nat.zero_le _) _).trans (setCells_low b r (o + 1) _)
theorem setCells_blk (b : Nat) : ∀ (vs : List Value) (o : Nat) (w : World) {arr : Array Value} {ty : TypeId} {fz : Nat × Nat}, w.heap[b]? = some (.cells arr ty fz) → (w.setCells b o vs).heap[b]? = some (.cells (ovr arr o vs) ty fz) ∧ (w.setCells b o vs).heap.size = w.heap.size ∧ ∀ j, j ≠ b → (w.setCells b o vs).heap[j]? = w.heap[j]?
  | [], o, w, arr, ty, fz, h => ⟨h, rfl, fun _ _ => rfl⟩
  | v :: r, o, w, arr, ty, fz, h => by
    have h1 : (w.setCell ⟨b, o, none⟩ v).heap[b]? = some (.cells (arr.setIfInBounds o v) ty fz) := by
      unfold World.setCell
      rw [Array.getElem?_modify, if_pos rfl, h]
      rfl
    obtain ⟨h2, h3, h4⟩ := setCells_blk b r (o + 1) (w.setCell ⟨b, o, none⟩ v) h1
    refine ⟨h2, h3.trans (World.size_setCell w _ _), fun j hj => (h4 j hj).trans ?_⟩
    unfold World.setCell
    rw [Array.getElem?_modify, if_neg (fun e => hj e.symm)]
end Ev
end Go.Proofs.YtjmifcnfnihhnaaGreatDoor
