/- THE EVALUATOR: a program of the model is run on values of which some are known, in the kernel. No program is named here. -/
import Derived.Orders
set_option linter.unusedVariables false
namespace Go.Proofs.YtgfhddhkillchaaGreatDoor
namespace Ev
noncomputable section
/-- scalars -/
inductive Sc where
  | b (x : Bool)
  | i (k : IntKind) (n : Int)
  | s (l : List Nat)
  | p (b off : Nat)
  | pn
  | sl (b off len sz : Nat)
  | sn
  | se
  | y (j : Nat)
inductive TC where
  | c (x : Sc)
  | ag (l : List Sc)
inductive AV where
  | c (x : Sc)
  | ag (l : List Sc)
  | tp (l : List TC)
  | u
variable {α β γ : Type}
structure N8 (α : Type) where
  c0 : α
  c1 : α
  c2 : α
  c3 : α
  c4 : α
  c5 : α
  c6 : α
  c7 : α
def sel (i : Nat) : N8 α → α := @Nat.rec (fun _ => N8 α → α) (N8.c0) (fun i _ => @Nat.rec (fun _ => N8 α → α) (N8.c1) (fun i _ => @Nat.rec (fun _ => N8 α → α) (N8.c2) (fun i _ => @Nat.rec (fun _ => N8 α → α) (N8.c3) (fun i _ => @Nat.rec (fun _ => N8 α → α) (N8.c4) (fun i _ => @Nat.rec (fun _ => N8 α → α) (N8.c5) (fun i _ => @Nat.rec (fun _ => N8 α → α) (N8.c6) (fun i _ => N8.c7) i) i) i) i) i) i) i
def up0 (v : α) (K : N8 α → β) (t : N8 α) : β := @N8.rec α (fun _ => β) (fun c0 c1 c2 c3 c4 c5 c6 c7 => K ⟨v, c1, c2, c3, c4, c5, c6, c7⟩) t
def up1 (v : α) (K : N8 α → β) (t : N8 α) : β := @N8.rec α (fun _ => β) (fun c0 c1 c2 c3 c4 c5 c6 c7 => K ⟨c0, v, c2, c3, c4, c5, c6, c7⟩) t
def up2 (v : α) (K : N8 α → β) (t : N8 α) : β := @N8.rec α (fun _ => β) (fun c0 c1 c2 c3 c4 c5 c6 c7 => K ⟨c0, c1, v, c3, c4, c5, c6, c7⟩) t
def up3 (v : α) (K : N8 α → β) (t : N8 α) : β := @N8.rec α (fun _ => β) (fun c0 c1 c2 c3 c4 c5 c6 c7 => K ⟨c0, c1, c2, v, c4, c5, c6, c7⟩) t
def up4 (v : α) (K : N8 α → β) (t : N8 α) : β := @N8.rec α (fun _ => β) (fun c0 c1 c2 c3 c4 c5 c6 c7 => K ⟨c0, c1, c2, c3, v, c5, c6, c7⟩) t
def up5 (v : α) (K : N8 α → β) (t : N8 α) : β := @N8.rec α (fun _ => β) (fun c0 c1 c2 c3 c4 c5 c6 c7 => K ⟨c0, c1, c2, c3, c4, v, c6, c7⟩) t
def up6 (v : α) (K : N8 α → β) (t : N8 α) : β := @N8.rec α (fun _ => β) (fun c0 c1 c2 c3 c4 c5 c6 c7 => K ⟨c0, c1, c2, c3, c4, c5, v, c7⟩) t
def up7 (v : α) (K : N8 α → β) (t : N8 α) : β := @N8.rec α (fun _ => β) (fun c0 c1 c2 c3 c4 c5 c6 c7 => K ⟨c0, c1, c2, c3, c4, c5, c6, v⟩) t
def upd (i : Nat) : α → (N8 α → β) → N8 α → β := @Nat.rec (fun _ => α → (N8 α → β) → N8 α → β) (up0) (fun i _ => @Nat.rec (fun _ => α → (N8 α → β) → N8 α → β) (up1) (fun i _ => @Nat.rec (fun _ => α → (N8 α → β) → N8 α → β) (up2) (fun i _ => @Nat.rec (fun _ => α → (N8 α → β) → N8 α → β) (up3) (fun i _ => @Nat.rec (fun _ => α → (N8 α → β) → N8 α → β) (up4) (fun i _ => @Nat.rec (fun _ => α → (N8 α → β) → N8 α → β) (up5) (fun i _ => @Nat.rec (fun _ => α → (N8 α → β) → N8 α → β) (up6) (fun i _ => up7) i) i) i) i) i) i) i
def all8 (a : α) : N8 α := ⟨a, a, a, a, a, a, a, a⟩
def headOr (l : List α) (a : α) : α := @List.rec α (fun _ => α) a (fun b _ _ => b) l
def drp (n : Nat) : List α → List α := @Nat.rec (fun _ => List α → List α) (fun l => l) (fun _ ih l => ih l.tail) n
def ofL1 (z : α) (l : List α) : N8 α := ⟨headOr (l) z, headOr (drp 1 l) z, headOr (drp 2 l) z, headOr (drp 3 l) z, headOr (drp 4 l) z, headOr (drp 5 l) z, headOr (drp 6 l) z, headOr (drp 7 l) z⟩
def ofL2 (z : α) (l : List α) : N8 (N8 α) := ⟨ofL1 z (drp 0 l), ofL1 z (drp 8 l), ofL1 z (drp 16 l), ofL1 z (drp 24 l), ofL1 z (drp 32 l), ofL1 z (drp 40 l), ofL1 z (drp 48 l), ofL1 z (drp 56 l)⟩
def ofL3 (z : α) (l : List α) : N8 (N8 (N8 α)) := ⟨ofL2 z (drp 0 l), ofL2 z (drp 64 l), ofL2 z (drp 128 l), ofL2 z (drp 192 l), ofL2 z (drp 256 l), ofL2 z (drp 320 l), ofL2 z (drp 384 l), ofL2 z (drp 448 l)⟩
def ofL4 (z : α) (l : List α) : N8 (N8 (N8 (N8 α))) := ⟨ofL3 z (drp 0 l), ofL3 z (drp 512 l), ofL3 z (drp 1024 l), ofL3 z (drp 1536 l), ofL3 z (drp 2048 l), ofL3 z (drp 2560 l), ofL3 z (drp 3072 l), ofL3 z (drp 3584 l)⟩
def get1 (k : Nat) (t : N8 α) : α := sel k t
def get2 (k : Nat) (t : N8 (N8 α)) : α := get1 (Nat.mod k 8) (sel (Nat.div k 8) t)
def get3 (k : Nat) (t : N8 (N8 (N8 α))) : α := get2 (Nat.mod k 64) (sel (Nat.div k 64) t)
def get4 (k : Nat) (t : N8 (N8 (N8 (N8 α)))) : α := get3 (Nat.mod k 512) (sel (Nat.div k 512) t)
def get5 (k : Nat) (t : N8 (N8 (N8 (N8 (N8 α))))) : α := get4 (Nat.mod k 4096) (sel (Nat.div k 4096) t)
def get6 (k : Nat) (t : N8 (N8 (N8 (N8 (N8 (N8 α)))))) : α := get5 (Nat.mod k 32768) (sel (Nat.div k 32768) t)
def set1 (k : Nat) (v : α) (t : N8 α) (K : N8 α → β) : β := upd k v K t
def set2 (k : Nat) (v : α) (t : N8 (N8 α)) (K : N8 (N8 α) → β) : β := set1 (Nat.mod k 8) v (sel (Nat.div k 8) t) fun c => upd (Nat.div k 8) c K t
def set3 (k : Nat) (v : α) (t : N8 (N8 (N8 α))) (K : N8 (N8 (N8 α)) → β) : β := set2 (Nat.mod k 64) v (sel (Nat.div k 64) t) fun c => upd (Nat.div k 64) c K t
def set4 (k : Nat) (v : α) (t : N8 (N8 (N8 (N8 α)))) (K : N8 (N8 (N8 (N8 α))) → β) : β := set3 (Nat.mod k 512) v (sel (Nat.div k 512) t) fun c => upd (Nat.div k 512) c K t
def set5 (k : Nat) (v : α) (t : N8 (N8 (N8 (N8 (N8 α))))) (K : N8 (N8 (N8 (N8 (N8 α)))) → β) : β := set4 (Nat.mod k 4096) v (sel (Nat.div k 4096) t) fun c => upd (Nat.div k 4096) c K t
def set6 (k : Nat) (v : α) (t : N8 (N8 (N8 (N8 (N8 (N8 α)))))) (K : N8 (N8 (N8 (N8 (N8 (N8 α))))) → β) : β := set5 (Nat.mod k 32768) v (sel (Nat.div k 32768) t) fun c => upd (Nat.div k 32768) c K t
def full2 (a : α) : N8 (N8 α) := all8 (all8 a)
def full3 (a : α) : N8 (N8 (N8 α)) := all8 (full2 a)
def full4 (a : α) : N8 (N8 (N8 (N8 α))) := all8 (full3 a)
def full5 (a : α) : N8 (N8 (N8 (N8 (N8 α)))) := all8 (full4 a)
def full6 (a : α) : N8 (N8 (N8 (N8 (N8 (N8 α))))) := all8 (full5 a)
/-- a block's cells -/
inductive Cl where
  | c0
  | c1 (t : N8 Sc)
  | c2 (t : N8 (N8 Sc))
  | c3 (t : N8 (N8 (N8 Sc)))
  | c4 (t : N8 (N8 (N8 (N8 Sc))))
def Cl.get (k : Nat) (c : Cl) : Sc := @Cl.rec (fun _ => Sc) .se (get1 k) (get2 k) (get3 k) (get4 k) c
def Cl.set (k : Nat) (v : Sc) (c : Cl) (K : Cl → β) : β := @Cl.rec (fun _ => β) (K .c0) (fun t => set1 k v t fun t => K (.c1 t)) (fun t => set2 k v t fun t => K (.c2 t)) (fun t => set3 k v t fun t => K (.c3 t)) (fun t => set4 k v t fun t => K (.c4 t)) c
def Cl.room (c : Cl) : Nat := @Cl.rec (fun _ => Nat) 0 (fun _ => 8) (fun _ => 64) (fun _ => 512) (fun _ => 4096) c
/-- a block: how many cells are known -/
structure Bk where
  n : Nat
  t : Cl
def ofC (n : Nat) (l : List Sc) : Cl := @Bool.rec (fun _ => Cl) (@Bool.rec (fun _ => Cl) (@Bool.rec (fun _ => Cl) (.c4 (ofL4 .se l)) (.c3 (ofL3 .se l)) (Nat.ble n 512)) (.c2 (ofL2 .se l)) (Nat.ble n 64)) (.c1 (ofL1 .se l)) (Nat.ble n 8)
def Bk.of (l : List Sc) : Bk := (fun n => ⟨n, ofC n l⟩) l.length
def dead : Bk := ⟨0, .c0⟩
abbrev Hp := N8 (N8 (N8 (N8 (N8 Bk))))
structure St where
  h : Hp
  nx : Nat
  rd : Nat
  wr : Nat
inductive R (α : Type) where
  | ok (a : α) (s : St)
  | no (n : Nat)
abbrev M (α : Type) := St → R α
def ret (a : α) : M α := fun s => .ok a s
def bnd (m : M α) (f : α → M β) : M β := fun s => @R.rec α (fun _ => R β) f R.no (m s)
def no (n : Nat) : M α := fun _ => .no n
def bit (id : Nat) : Nat := Nat.shiftLeft 1 id
/-- a block is looked at -/
def look (id : Nat) (K : Bk → M α) : M α := fun s => @St.rec (fun _ => R α) (fun h nx rd wr => @Bool.rec (fun _ => R α) (.no 1) (K (get5 id h) ⟨h, nx, Nat.lor rd (bit id), wr⟩) (Nat.blt id nx)) s
def put (id : Nat) (b : Bk) (K : M α) : M α := fun s => @St.rec (fun _ => R α) (fun h nx rd wr => @Bool.rec (fun _ => R α) (.no 1) (@Bool.rec (fun _ => R α) (.no 1) (set5 id b h fun h => K ⟨h, nx, rd, Nat.lor wr (bit id)⟩) (Nat.blt id nx)) (Nat.ble 8 id)) s
def fresh (b : Bk) (K : Nat → M α) : M α := fun s => @St.rec (fun _ => R α) (fun h nx rd wr => @Bool.rec (fun _ => R α) (.no 2) (set5 nx b h fun h => K nx ⟨h, Nat.succ nx, rd, wr⟩) (Nat.blt nx 32768)) s
def optm (n : Nat) (o : Option α) (f : α → M β) : M β := @Option.rec _ (fun _ => M β) (no n) f o
/-- cells from off on -/
def cellsF (t : Cl) (n : Nat) : Nat → List Sc := @Nat.rec (fun _ => Nat → List Sc) (fun _ => []) (fun _ ih off => t.get off :: ih (Nat.succ off)) n
def storeF (l : List Sc) : Nat → Cl → (Cl → β) → β := @List.rec Sc (fun _ => Nat → Cl → (Cl → β) → β) (fun _ t K => K t) (fun v _ ih off t K => t.set off v fun t => ih (Nat.succ off) t K) l
def cellsOf (v : AV) : Option (List Sc) := @AV.rec (fun _ => Option (List Sc)) (fun x => some [x]) (fun l => some l) (fun _ => none) none v
/-- types -/
structure TI where
  sz : Nat
  bs : Nat
  ag : Bool
  z : Option (List Sc)
  kd : Nat
  el : Nat
  ln : Nat
  fs : List (Nat × Nat)
  ik : IntKind
def scOf : Value → Option Sc
  | .bool x => some (.b x)
  | .int k n => some (.i k n)
  | .string s => some (.s (s.data.toList.map (·.toNat)))
  | .pointer none => some .pn
  | .slice none 0 0 => some .sn
  | _ => none
def scsOf : List Value → Option (List Sc)
  | [] => some []
  | v :: l => match scOf v with
    | some x => match scsOf l with
      | some m => some (x :: m)
      | none => none
    | none => none
def ofV : Value → AV
  | .agg ⟨l⟩ => match scsOf l with
    | some m => .ag m
    | none => .u
  | .tuple ⟨[]⟩ => .tp []
  | v => match scOf v with
    | some x => .c x
    | none => .u
def ti0 : TI := ⟨0, 0, false, none, 0, 0, 0, [], .i64⟩
def tiOf (P : Program) (t : Nat) : TI := match P.info? t with
  | none => ti0
  | some i =>
    let z := match i.zero with
      | some v => cellsOf (ofV v)
      | none => none
    match P.underlying t with
    | some (.slice e) => ⟨i.size, i.bytes, false, z, 1, e, 0, [], .i64⟩
    | some (.array n e) => ⟨i.size, i.bytes, true, z, 2, e, n, [], .i64⟩
    | some (.struct fs) => ⟨i.size, i.bytes, true, z, 3, 0, 0, fs.toList.map fun f => (f.offset, f.type), .i64⟩
    | some .string => ⟨i.size, i.bytes, false, z, 4, 0, 0, [], .i64⟩
    | some (.int k) => ⟨i.size, i.bytes, false, z, 5, 0, 0, [], k⟩
    | some .bool => ⟨i.size, i.bytes, false, z, 6, 0, 0, [], .i64⟩
    | some (.pointer e) => ⟨i.size, i.bytes, false, z, 7, e, 0, [], .i64⟩
    | _ => ti0
/-- the program, and which temps are kept from a region to the next -/
structure Tab where
  P : Program
  kp : Nat → Nat
  orc : BinOp → Sc → Sc → Option Sc
  ouc : UnOp → Sc → Option Sc
  hk : Nat → List AV → Option AV
def Tab.t (T : Tab) (t : Nat) : TI := tiOf T.P t
def Tab.f (T : Tab) (k : Nat) : Option Func := T.P.funcs[k]?
def nth (l : List α) : Nat → Option α := @List.rec α (fun _ => Nat → Option α) (fun _ => none) (fun a _ ih k => @Nat.rec (fun _ => Option α) (some a) (fun k _ => ih k) k) l
/-- size and element size, told once -/
def szT (T : Tab) (t : Nat) : Nat := (T.t t).sz
def agT (T : Tab) (t : Nat) : Bool := (T.t t).ag
def zeT (T : Tab) (t : Nat) : Option (List Sc) := (T.t t).z
def bsT (T : Tab) (t : Nat) : Nat := (T.t t).bs
/-- the zero cells of a row's element: as many as its size says -/
def ezE (T : Tab) (t : Nat) : Option (List Sc) := @Option.rec _ (fun _ => Option (List Sc)) none (fun l => @Bool.rec (fun _ => Option (List Sc)) none (@Bool.rec (fun _ => Option (List Sc)) none (some l) (Nat.blt 0 l.length)) (Nat.beq l.length (T.t t).sz)) (zeT T t)
def kdT (T : Tab) (t : Nat) : Nat := (T.t t).kd
def elT (T : Tab) (t : Nat) : Nat := (T.t t).el
def lnT (T : Tab) (t : Nat) : Nat := (T.t t).ln
def ikT (T : Tab) (t : Nat) : IntKind := (T.t t).ik
def ezT (T : Tab) (t : Nat) : Nat := szT T (elT T t)
def isK (T : Tab) (t k : Nat) : Bool := Nat.beq (kdT T t) k
/-- the longest row that an append is borne at: its bytes, too -/
def limT (T : Tab) (t : Nat) : Nat := @Option.rec _ (fun _ => Nat) 0 (fun _ => @Bool.rec (fun _ => Nat) 0 100000 (Nat.ble (bsT T t) 100000)) (ezE T t)
/-- a field's offset and type -/
def fdT (T : Tab) (t f : Nat) : Option (Nat × Nat) := nth (T.t t).fs f
/-- the fields' places, if each one's type is known -/
def fpL (T : Tab) (l : List (Nat × Nat)) : Option (List (Nat × Nat)) := @List.rec _ (fun _ => Option (List (Nat × Nat))) (some []) (fun q _ ih => @Bool.rec (fun _ => Option (List (Nat × Nat))) (@Option.rec _ (fun _ => Option (List (Nat × Nat))) none (fun m => some ((q.1, szT T q.2) :: m)) ih) none (isK T q.2 0)) l
def fpT (T : Tab) (t : Nat) : Option (List (Nat × Nat)) := fpL T (T.t t).fs
/-- does an element take room? -/
def ezB (T : Tab) (t : Nat) : Bool := Nat.blt 0 (ezT T t)
/-- a field's offset, if it takes room -/
def foT (T : Tab) (t f : Nat) : Option Nat := @Option.rec _ (fun _ => Option Nat) none (fun q => @Nat.rec (fun _ => Option Nat) none (fun _ _ => some q.1) (szT T q.2)) (fdT T t f)
/-- numbers -/
def wr64 (n : Int) : Int := @Int.rec (fun _ => Int) (fun m => @Bool.rec (fun _ => Int) (IntKind.i64.wrap (.ofNat m)) (.ofNat m) (Nat.ble m 9223372036854775807)) (fun m => @Bool.rec (fun _ => Int) (IntKind.i64.wrap (.negSucc m)) (.negSucc m) (Nat.ble m 9223372036854775807)) n
def wr (k : IntKind) : Int → Int := @IntKind.rec (fun _ => Int → Int) IntKind.i8.wrap IntKind.i16.wrap IntKind.i32.wrap wr64 IntKind.u8.wrap IntKind.u16.wrap IntKind.u32.wrap IntKind.u64.wrap k
def forceN (n : Nat) (f : Nat → α) : α := @Nat.rec (fun _ => α) (f 0) (fun m _ => f (Nat.succ m)) n
def forceI (n : Int) (f : Int → α) : α := @Int.rec (fun _ => α) (fun m => forceN m fun m => f (.ofNat m)) (fun m => forceN m fun m => f (.negSucc m)) n
def ieq (a b : Int) : Bool := @Int.rec (fun _ => Bool) (fun m => @Int.rec (fun _ => Bool) (fun n => Nat.beq m n) (fun _ => false) b) (fun m => @Int.rec (fun _ => Bool) (fun _ => false) (fun n => Nat.beq m n) b) a
def ile (a b : Int) : Bool := @Int.rec (fun _ => Bool) (fun m => @Int.rec (fun _ => Bool) (fun n => Nat.ble m n) (fun _ => false) b) (fun m => @Int.rec (fun _ => Bool) (fun _ => true) (fun n => Nat.ble n m) b) a
def leq (a : List Nat) : List Nat → Bool := @List.rec Nat (fun _ => List Nat → Bool) (fun b => @List.rec Nat (fun _ => Bool) true (fun _ _ _ => false) b) (fun x _ ih b => @List.rec Nat (fun _ => Bool) false (fun y m _ => @Bool.rec (fun _ => Bool) false (ih m) (Nat.beq x y)) b) a
def kN (k : IntKind) : Nat := @IntKind.rec (fun _ => Nat) 0 1 2 3 4 5 6 7 k
def mkI (k : IntKind) (n : Int) : Option Sc := forceI n fun n => some (.i k n)
def mkB (b : Bool) : Option Sc := @Bool.rec (fun _ => Option Sc) (some (.b false)) (some (.b true)) b
def nt (b : Bool) : Bool := @Bool.rec (fun _ => Bool) true false b
abbrev BI := IntKind → Int → Int → Option Sc
def nI : BI := fun _ _ _ => none
def iAdd : BI := fun k a b => mkI k (wr k (Int.add a b))
def iSub : BI := fun k a b => mkI k (wr k (Int.sub a b))
def iMul : BI := fun k a b => mkI k (wr k (Int.mul a b))
def iQuo : BI := fun k a b => @Bool.rec (fun _ => Option Sc) (mkI k (wr k (a.tdiv b))) none (ieq b 0)
def iRem : BI := fun k a b => @Bool.rec (fun _ => Option Sc) (mkI k (a.tmod b)) none (ieq b 0)
def iAnd : BI := fun k a b => mkI k (k.wrap (BitVec.ofInt k.bits a &&& BitVec.ofInt k.bits b).toNat)
def iOr : BI := fun k a b => mkI k (k.wrap (BitVec.ofInt k.bits a ||| BitVec.ofInt k.bits b).toNat)
def iAndNot : BI := fun k a b => mkI k (k.wrap (BitVec.ofInt k.bits a &&& ~~~ BitVec.ofInt k.bits b).toNat)
def iEql : BI := fun _ a b => mkB (ieq a b)
def iNeq : BI := fun _ a b => mkB (nt (ieq a b))
def iLss : BI := fun _ a b => mkB (nt (ile b a))
def iLeq : BI := fun _ a b => mkB (ile a b)
def iGtr : BI := fun _ a b => mkB (nt (ile a b))
def iGeq : BI := fun _ a b => mkB (ile b a)
def iShl : BI := fun k a b => @Bool.rec (fun _ => Option Sc) none (mkI k (wr k (a * 2 ^ (min b.toNat k.bits)))) (ile 0 b)
def iShr : BI := fun k a b => @Bool.rec (fun _ => Option Sc) none (mkI k (a.fdiv (2 ^ (min b.toNat k.bits)))) (ile 0 b)
/-- an operator on numbers; whether the kinds must be the same -/
def bI (op : BinOp) : BI := match op with
  | .add => iAdd
  | .sub => iSub
  | .mul => iMul
  | .quo => iQuo
  | .rem => iRem
  | .and => iAnd
  | .or => iOr
  | .andNot => iAndNot
  | .eql => iEql
  | .neq => iNeq
  | .lss => iLss
  | .leq => iLeq
  | .gtr => iGtr
  | .geq => iGeq
  | .shl => iShl
  | .shr => iShr
  | _ => nI
def free2 (op : BinOp) : Bool := match op with
  | .shl => true
  | .shr => true
  | _ => false
def sAdd (a b : List Nat) : Option Sc := @Bool.rec (fun _ => Option Sc) none (some (.s (a ++ b))) (Nat.ble (Nat.add a.length b.length) 1000000)
def sEql (a b : List Nat) : Option Sc := mkB (leq a b)
def sNeq (a b : List Nat) : Option Sc := mkB (nt (leq a b))
def bS (op : BinOp) : List Nat → List Nat → Option Sc := match op with
  | .add => sAdd
  | .eql => sEql
  | .neq => sNeq
  | _ => fun _ _ => none
def beq2 (a b : Bool) : Bool := @Bool.rec (fun _ => Bool) (nt b) b a
def bB (op : BinOp) : Bool → Bool → Option Sc := match op with
  | .eql => fun a b => mkB (beq2 a b)
  | .neq => fun a b => mkB (nt (beq2 a b))
  | _ => fun _ _ => none
def binI (op : BinOp) (k : IntKind) (a : Int) (y : Sc) : Option Sc := @Sc.rec (fun _ => Option Sc) (fun _ => none) (fun k' b => @Bool.rec (fun _ => Option Sc) (@Bool.rec (fun _ => Option Sc) none (bI op k a b) (Nat.beq (kN k) (kN k'))) (bI op k a b) (free2 op)) (fun _ => none) (fun _ _ => none) (none) (fun _ _ _ _ => none) (none) (none) (fun _ => none) y
def binS (op : BinOp) (a : List Nat) (y : Sc) : Option Sc := @Sc.rec (fun _ => Option Sc) (fun _ => none) (fun _ _ => none) (fun b => bS op a b) (fun _ _ => none) (none) (fun _ _ _ _ => none) (none) (none) (fun _ => none) y
def binB (op : BinOp) (bt : Bool) (a : Bool) (y : Sc) : Option Sc := @Sc.rec (fun _ => Option Sc) (fun b => @Bool.rec (fun _ => Option Sc) none (bB op a b) bt) (fun _ _ => none) (fun _ => none) (fun _ _ => none) (none) (fun _ _ _ _ => none) (none) (none) (fun _ => none) y
def nil2 : Sc → Option Sc := fun _ => none
def bin (op : BinOp) (bt : Bool) (x : Sc) : Sc → Option Sc := @Sc.rec (fun _ => Sc → Option Sc) (binB op bt) (binI op) (binS op) (fun _ _ => nil2) (nil2) (fun _ _ _ _ => nil2) (nil2) (nil2) (fun _ => nil2) x
/-- parts put into cells -/
def overlay0 (vs : List Sc) : List Sc → List Sc := @List.rec Sc (fun _ => List Sc → List Sc) (fun l => l) (fun v _ ih l => v :: ih l.tail) vs
def overlay (n : Nat) (vs : List Sc) : List Sc → List Sc := @Nat.rec (fun _ => List Sc → List Sc) (overlay0 vs) (fun _ ih l => @List.rec Sc (fun _ => List Sc) [] (fun c l _ => c :: ih l) l) n
def fillA (place : Nat → Option (Nat × Nat)) (ps : List (Nat × Option (List Sc))) : List Sc → Option (List Sc) := @List.rec _ (fun _ => List Sc → Option (List Sc)) (fun cells => some cells) (fun q _ ih cells => @Option.rec _ (fun _ => Option (List Sc)) none (fun vs => @Option.rec _ (fun _ => Option (List Sc)) none (fun os => @Bool.rec (fun _ => Option (List Sc)) none (@Bool.rec (fun _ => Option (List Sc)) none (ih (overlay os.1 vs cells)) (Nat.ble (Nat.add os.1 os.2) cells.length)) (Nat.beq vs.length os.2)) (place q.1)) q.2) ps
def repl (z : List Sc) (n : Nat) : List Sc := @Nat.rec (fun _ => List Sc) [] (fun _ ih => z ++ ih) n
def newBlk (l : List Sc) (K : Nat → M α) : M α := @Bool.rec (fun _ => M α) (no 3) (fresh (Bk.of l) K) (Nat.ble l.length 4096)
/-- temps: those of this region, the last one first; those that are kept -/
inductive Lc where
  | nl
  | cs (t : Nat) (v : AV) (r : Lc)
abbrev Vs := N8 (N8 (N8 AV))
structure Tm where
  l : Lc
  v : Vs
def und : AV := .tp []
def lget (l : Lc) : Nat → Vs → AV := @Lc.rec (fun _ => Nat → Vs → AV) get3 (fun t v _ ih k vs => @Bool.rec (fun _ => AV) (ih k vs) v (Nat.beq t k)) l
def tget (k : Nat) (tm : Tm) : AV := @Tm.rec (fun _ => AV) (fun l v => lget l k v) tm
def evo (x : Operand) : Tm → AV := @Operand.rec (fun _ => Tm → AV) tget (fun v _ => ofV v) (fun g _ => .c (.p g 0)) (fun _ _ => .u) x
/-- is it kept? -/
def kept (kp d : Nat) : Nat := Nat.land (Nat.shiftRight kp d) 1
def tputS (kp d : Nat) (v : AV) (K : Tm → α) (l : Lc) (vs : Vs) : α := @Nat.rec (fun _ => α) (K ⟨.cs d v l, vs⟩) (fun _ _ => set3 d v vs fun vs => K ⟨.cs d v l, vs⟩) (kept kp d)
def tput (kp : Nat) (dst : Option Tmp) (v : AV) (K : Tm → α) (tm : Tm) : α := @Option.rec _ (fun _ => α) (K tm) (fun d => @Tm.rec (fun _ => α) (tputS kp d v K) tm) dst
abbrev Cal := Nat → List AV → M AV
abbrev OpF := Tab → Cal → Tm → M AV
def retC (x : Sc) : M AV := fun s => .ok (.c x) s
/-- an operand that is a scalar -/
def avC (n : Nat) (v : AV) (f : Sc → M α) : M α := @AV.rec (fun _ => M α) f (fun _ => no n) (fun _ => no n) (no n) v
def scP (n : Nat) (x : Sc) (f : Nat → Nat → M α) : M α := @Sc.rec (fun _ => M α) (fun _ => no n) (fun _ _ => no n) (fun _ => no n) (f) (no n) (fun _ _ _ _ => no n) (no n) (no n) (fun _ => no n) x
def scI (n : Nat) (x : Sc) (f : IntKind → Int → M α) : M α := @Sc.rec (fun _ => M α) (fun _ => no n) (f) (fun _ => no n) (fun _ _ => no n) (no n) (fun _ _ _ _ => no n) (no n) (no n) (fun _ => no n) x
def scB (n : Nat) (x : Sc) (f : Bool → M α) : M α := @Sc.rec (fun _ => M α) (f) (fun _ _ => no n) (fun _ => no n) (fun _ _ => no n) (no n) (fun _ _ _ _ => no n) (no n) (no n) (fun _ => no n) x
def scS (n : Nat) (x : Sc) (f : List Nat → M α) : M α := @Sc.rec (fun _ => M α) (fun _ => no n) (fun _ _ => no n) (f) (fun _ _ => no n) (no n) (fun _ _ _ _ => no n) (no n) (no n) (fun _ => no n) x
def scL (n : Nat) (x : Sc) (f : Nat → Nat → Nat → Nat → M α) (z : M α) : M α := @Sc.rec (fun _ => M α) (fun _ => no n) (fun _ _ => no n) (fun _ => no n) (fun _ _ => no n) (no n) (f) (z) (z) (fun _ => no n) x
def atP (n : Nat) (x : Operand) (tm : Tm) (f : Nat → Nat → M AV) : M AV := avC n (evo x tm) fun s => scP n s f
def intN (n : Nat) (z : Int) (f : Nat → M α) : M α := @Int.rec (fun _ => M α) f (fun _ => no n) z
def atN (n : Nat) (x : Operand) (tm : Tm) (f : Nat → M AV) : M AV := avC n (evo x tm) fun s => scI n s fun _ z => intN n z f
def iff (b : Bool) (x y : α) : α := @Bool.rec (fun _ => α) y x b
def oMove (x : Operand) : OpF := fun _ _ tm s => .ok (evo x tm) s
def oPick (c a b : Operand) : OpF := fun _ _ tm => avC 20 (evo c tm) fun s => scB 20 s fun t => @Bool.rec (fun _ => M AV) (ret (evo b tm)) (ret (evo a tm)) t
def oAlloc (t : TypeId) : OpF := fun T _ _ => optm 19 (zeT T t) fun z => newBlk z fun id => retC (.p id 0)
def oBox (_ : TypeId) (x : Operand) : OpF := fun _ _ tm => optm 21 (cellsOf (evo x tm)) fun l => newBlk l fun id => retC (.p id 0)
def placeA (T : Tab) (t i : Nat) : Option (Nat × Nat) := some (Nat.mul i (ezT T t), ezT T t)
def partsE (ps : Array (Nat × Operand)) (tm : Tm) : List (Nat × Option (List Sc)) := ps.toList.map fun q => (q.1, cellsOf (evo q.2 tm))
def oBuild (t : TypeId) (ps : Array (Nat × Operand)) : OpF := fun T _ tm => optm 22 (zeT T t) fun z => iff (isK T t 3) (optm 22 (fpT T t) fun fp => optm 22 (fillA (nth fp) (partsE ps tm) z) fun l => ret (.ag l)) (iff (isK T t 2) (iff (ezB T t) (optm 22 (fillA (placeA T t) (partsE ps tm) z) fun l => ret (.ag l)) (no 23)) (no 23))
def oBuildSlice (t : TypeId) (len : Nat) (ps : Array (Nat × Operand)) : OpF := fun T _ tm => iff (isK T t 1) (optm 24 (ezE T (elT T t)) fun z => iff (Nat.ble (Nat.mul len z.length) 16777216) (optm 24 (fillA (placeA T t) (partsE ps tm) (repl z len)) fun l => newBlk l fun id => retC (.sl id 0 len (ezT T t))) (no 24)) (no 25)
def loadA (n off : Nat) (b : Nat) : M AV := @Nat.rec (fun _ => M AV) (ret (.ag [])) (fun m _ => look b fun B => iff (Nat.ble (Nat.add off (Nat.succ m)) B.n) (ret (.ag (cellsF B.t (Nat.succ m) off))) (no 26)) n
def loadK (off : Nat) (B : Bk) : M AV := @Bk.rec (fun _ => M AV) (fun n t => @Bool.rec (fun _ => M AV) (no 27) (retC (t.get off)) (Nat.blt off n)) B
def loadC (off b : Nat) : M AV := look b (loadK off)
def oLoad (t : TypeId) (a : Operand) : OpF := fun T _ tm => @Bool.rec (fun _ => M AV) (atP 28 a tm fun b off => @Bool.rec (fun _ => M AV) (loadC off b) (loadA (szT T t) off b) (agT T t)) (no 28) (isK T t 0)
def storeK (l : List Sc) (off sz b : Nat) (B : Bk) : M AV := @Bk.rec (fun _ => M AV) (fun n t => @Bool.rec (fun _ => M AV) (no 30) (storeF l off t fun t => put b ⟨n, t⟩ (ret und)) (Nat.ble (Nat.add off sz) n)) B
def storeA (l : List Sc) (sz b off : Nat) : M AV := @Bool.rec (fun _ => M AV) (no 29) (@Nat.rec (fun _ => M AV) (ret und) (fun _ _ => look b (storeK l off sz b)) sz) (Nat.beq l.length sz)
def oStore (t : TypeId) (a x : Operand) : OpF := fun T _ tm => @Bool.rec (fun _ => M AV) (atP 31 a tm fun b off => optm 31 (cellsOf (evo x tm)) fun l => storeA l (szT T t) b off) (no 31) (isK T t 0)
def oNil (x : Operand) : OpF := fun _ _ tm => atP 32 x tm fun b off => retC (.p b off)
def oBin (op : BinOp) (t : TypeId) (x y : Operand) (_ : TypeId) : OpF := fun T _ tm => avC 33 (evo x tm) fun a => avC 33 (evo y tm) fun b => @Option.rec _ (fun _ => M AV) (optm 33 (T.orc op a b) retC) retC (bin op (isK T t 6) a b)
def uNeg (x : Sc) : Option Sc := @Sc.rec (fun _ => Option Sc) (fun _ => none) (fun k n => iSub k 0 n) (fun _ => none) (fun _ _ => none) (none) (fun _ _ _ _ => none) (none) (none) (fun _ => none) x
def uNot (x : Sc) : Option Sc := @Sc.rec (fun _ => Option Sc) (fun b => mkB (nt b)) (fun _ _ => none) (fun _ => none) (fun _ _ => none) (none) (fun _ _ _ _ => none) (none) (none) (fun _ => none) x
def un (op : UnOp) : Sc → Option Sc := match op with
  | .neg => uNeg
  | .not => uNot
  | _ => fun _ => none
def oUn (op : UnOp) (_ : TypeId) (x : Operand) : OpF := fun T _ tm => avC 34 (evo x tm) fun a => @Option.rec _ (fun _ => M AV) (optm 34 (T.ouc op a) retC) retC (un op a)
/-- the cells that a row's value shows -/
def rowN (sz b off len : Nat) (K : Nat → List Sc → M α) : M α := @Nat.rec (fun _ => M α) (K 0 []) (fun m _ => look b fun B => iff (Nat.ble (Nat.add off (Nat.mul (Nat.succ m) sz)) B.n) (K (Nat.succ m) (cellsF B.t (Nat.mul (Nat.succ m) sz) off)) (no 3)) len
def rowOf (v : Sc) (sz : Nat) (K : Nat → List Sc → M α) : M α := @Sc.rec (fun _ => M α) (fun _ => no 5) (fun _ _ => no 5) (fun l => iff (Nat.beq sz 1) (K l.length (l.map fun c => .i .u8 (.ofNat c))) (no 4)) (fun _ _ => no 5) (no 5) (fun b off len s => iff (Nat.beq s sz) (rowN sz b off len K) (no 4)) (K 0 []) (K 0 [] ) (fun _ => no 5) v
def byteOf (x : Sc) : Option Nat := @Sc.rec (fun _ => Option Nat) (fun _ => none) (fun k n => iff (Nat.beq (kN k) 4) (@Int.rec (fun _ => Option Nat) (fun m => iff (Nat.blt m 256) (some m) none) (fun _ => none) n) none) (fun _ => none) (fun _ _ => none) (none) (fun _ _ _ _ => none) (none) (none) (fun _ => none) x
def bytesOf (l : List Sc) : Option (List Nat) := @List.rec Sc (fun _ => Option (List Nat)) (some []) (fun x _ ih => @Option.rec _ (fun _ => Option (List Nat)) none (fun c => @Option.rec _ (fun _ => Option (List Nat)) none (fun m => some (c :: m)) ih) (byteOf x)) l
def isB (T : Tab) (t : Nat) : Bool := iff (isK T t 5) (Nat.beq (kN (ikT T t)) 4) false
def oConvert (src dst : TypeId) (x : Operand) : OpF := fun T _ tm => avC 38 (evo x tm) fun v => iff (isK T src 0) (no 38)
  (iff (isK T dst 5) (scI 38 v fun _ n => optm 38 (mkI (ikT T dst) (wr (ikT T dst) n)) retC)
  (iff (isK T dst 4) (iff (isK T src 1) (iff (isB T (elT T src)) (scL 39 v (fun b off len sz => rowOf (.sl b off len sz) 1 fun _ r => optm 39 (bytesOf r) fun l => retC (.s l)) (retC (.s []))) (no 40)) (no 40))
  (iff (Nat.beq src dst) (iff (isK T dst 1) (iff (isB T (elT T dst)) (scL 41 v (fun b off len sz => look b fun B => iff (Nat.blt 0 B.t.room) (put b B (retC (.sl b off len sz))) (no 41)) (no 41)) (no 41)) (no 41)) (no 41))))
def oMakeSlice (t : TypeId) (l c : Operand) : OpF := fun T _ tm => atN 43 l tm fun l => atN 43 c tm fun c => iff (isK T t 1) (iff (Nat.ble l c) (iff (Nat.ble c (limT T (elT T t))) (optm 43 (ezE T (elT T t)) fun z => newBlk (repl z c) fun id => retC (.sl id 0 l (ezT T t))) (no 43)) (no 43)) (no 43)
def bound (o : Option Operand) (tm : Tm) (z : Nat) (f : Nat → M AV) : M AV := @Option.rec _ (fun _ => M AV) (f z) (fun x => atN 46 x tm f) o
def cutS (l : List Nat) (k h : Nat) : Option Sc := iff (Nat.ble k h) (iff (Nat.ble h l.length) (some (.s ((l.drop k).take (Nat.sub h k)))) none) none
def cutR (b off len sz k h : Nat) : Option Sc := iff (Nat.ble h len) (@Nat.rec (fun _ => Option Sc) (some (.sl b off h sz)) (fun k _ => iff (Nat.ble h k) none (iff (Nat.beq h (Nat.succ k)) (some .se) (some (.sl b (Nat.add off (Nat.mul (Nat.succ k) sz)) (Nat.sub h (Nat.succ k)) sz)))) k) none
def two (lo hi : Option Operand) (tm : Tm) (z : Nat) (f : Nat → Nat → Option Sc) : M AV := bound lo tm 0 fun a => bound hi tm z fun b => optm 46 (f a b) retC
def oSlice (t : TypeId) (x : Operand) (lo hi mx : Option Operand) : OpF := fun T _ tm => @Option.rec _ (fun _ => M AV) (avC 46 (evo x tm) fun v => iff (isK T t 4) (scS 46 v fun l => two lo hi tm l.length (cutS l)) (iff (isK T t 1) (scL 46 v (fun b off len sz => iff (ezB T t) (iff (Nat.beq (ezT T t) sz) (two lo hi tm len (cutR b off len sz)) (no 46)) (no 46)) (no 46)) (no 46))) (fun _ => no 47) mx
def oFieldAddr (s : TypeId) (x : Operand) (f : Nat) : OpF := fun T _ tm => atP 48 x tm fun b off => @Option.rec _ (fun _ => M AV) (no 49) (fun o => retC (.p b (Nat.add off o))) (foT T s f)
def avA (n : Nat) (v : AV) (f : List Sc → M α) : M α := @AV.rec (fun _ => M α) (fun _ => no n) f (fun _ => no n) (no n) v
def partA (T : Tab) (t : TypeId) (l : List Sc) (o : Nat) : M AV := iff (isK T t 0) (no 51) (iff (agT T t) (ret (.ag ((l.drop o).take (szT T t)))) (optm 51 (nth l o) retC))
def oField (s : TypeId) (x : Operand) (f : Nat) : OpF := fun T _ tm => avA 53 (evo x tm) fun l => optm 52 (fdT T s f) fun q => partA T q.2 l q.1
def oIndexAddr (t : TypeId) (x ix : Operand) : OpF := fun T _ tm => atN 54 ix tm fun k =>
  iff (isK T t 1) (avC 55 (evo x tm) fun v => scL 55 v (fun b off len sz => iff (Nat.ble len k) (no 56) (iff (ezB T t) (iff (Nat.beq sz (ezT T t)) (retC (.p b (Nat.add off (Nat.mul k sz)))) (no 57)) (no 57))) (no 55))
  (iff (isK T t 2) (iff (ezB T t) (atP 58 x tm fun b off => iff (Nat.ble (lnT T t) k) (no 59) (retC (.p b (Nat.add off (Nat.mul k (ezT T t)))))) (no 60)) (no 60))
def oIndex (t : TypeId) (x ix : Operand) : OpF := fun T _ tm => atN 61 ix tm fun k =>
  iff (isK T t 4) (avC 61 (evo x tm) fun v => scS 61 v fun l => optm 62 (nth l k) fun c => retC (.i .u8 (.ofNat c)))
  (iff (isK T t 2) (iff (Nat.ble (lnT T t) k) (no 63) (avA 64 (evo x tm) fun l => partA T (elT T t) l (Nat.mul k (ezT T t)))) (no 65))
def tcV (c : TC) : AV := @TC.rec (fun _ => AV) AV.c AV.ag c
def oExtract (x : Operand) (k : Nat) : OpF := fun _ _ tm => @AV.rec (fun _ => M AV) (fun _ => no 67) (fun _ => no 67) (fun l => optm 67 (nth l k) fun c => ret (tcV c)) (no 67) (evo x tm)
def appN (x : Sc) : M AV := @Sc.rec (fun _ => M AV) (fun _ => no 6) (fun _ _ => no 6) (fun _ => no 6) (fun _ _ => no 6) (no 6) (fun b off len sz => retC (.sl b off len sz)) (retC .sn) (retC .se) (fun _ => no 6) x
def appG (b len sz n : Nat) (l : List Sc) (B : Bk) : M AV := put b dead (iff (Nat.ble (Nat.mul (Nat.add len n) sz) B.t.room) (storeF l (Nat.mul len sz) B.t fun t => fresh ⟨Nat.mul (Nat.add len n) sz, t⟩ fun id => retC (.sl id 0 (Nat.add len n) sz)) (newBlk (cellsF B.t (Nat.mul len sz) 0 ++ l) fun id => retC (.sl id 0 (Nat.add len n) sz)))
def appS (x : Sc) (lim sz n : Nat) (l : List Sc) : M AV := @Sc.rec (fun _ => M AV) (fun _ => no 10) (fun _ _ => no 10) (fun _ => no 10) (fun _ _ => no 10) (no 10) (fun b off len z => iff (Nat.beq off 0) (iff (Nat.beq z sz) (look b fun B => iff (Nat.ble (Nat.mul len sz) B.n) (iff (Nat.blt 0 B.t.room) (iff (Nat.ble (Nat.add len n) lim) (appG b len sz n l B) (no 12)) (no 9)) (no 9)) (no 9)) (no 9)) (iff (Nat.ble n lim) (newBlk l fun id => retC (.sl id 0 n sz)) (no 12)) (no 10) (fun _ => no 10) x
def oAppend (s x : Operand) (lim sz : Nat) (tm : Tm) : M AV := avC 11 (evo s tm) fun s => avC 11 (evo x tm) fun x => rowOf x sz fun n l => @Nat.rec (fun _ => M AV) (appN s) (fun m _ => appS s lim sz (Nat.succ m) l) n
def lenA (T : Tab) (t : TypeId) : M AV := iff (isK T t 2) (retC (.i .i64 (.ofNat (lnT T t)))) (no 70)
def lenC (T : Tab) (t : TypeId) (v : Sc) : M AV := iff (isK T t 1) (scL 71 v (fun _ _ len _ => retC (.i .i64 (.ofNat len))) (retC (.i .i64 (.ofNat 0)))) (iff (isK T t 4) (scS 71 v fun l => retC (.i .i64 (.ofNat l.length))) (iff (isK T t 2) (lenA T t) (iff (isK T t 7) (lenA T (elT T t)) (no 71))))
def oLen (t : TypeId) (x : Operand) : OpF := fun T _ tm => @AV.rec (fun _ => M AV) (lenC T t) (fun _ => lenA T t) (fun _ => no 72) (no 72) (evo x tm)
def copyR (b off sz n : Nat) (l : List Sc) : M AV := @Nat.rec (fun _ => M AV) (retC (.i .i64 (.ofNat 0))) (fun m _ => look b fun B => iff (Nat.ble (Nat.add off (Nat.mul (Nat.succ m) sz)) B.n) (storeF (l.take (Nat.mul (Nat.succ m) sz)) off B.t fun t => put b ⟨B.n, t⟩ (retC (.i .i64 (.ofNat (Nat.succ m))))) (no 77)) n
def oCopy (s x : Operand) (sz : Nat) (tm : Tm) : M AV := avC 78 (evo s tm) fun s => avC 78 (evo x tm) fun x => rowOf x sz fun n l => scL 78 s (fun b off len z => iff (Nat.beq z sz) (copyR b off sz (iff (Nat.ble n len) n len) l) (no 78)) (retC (.i .i64 (.ofNat 0)))
/-- a row, or a string -/
def rowK (T : Tab) (t : Nat) : Bool := @Bool.rec (fun _ => Bool) (isK T t 4) true (isK T t 1)
def oBi (bt : Builtin) (args : List Operand) (tys : List TypeId) : OpF := match args, tys with
  | [x], [t] => match bt with
    | .len => oLen t x
    | _ => fun _ _ _ => no 80
  | [s, x], [ts, tx] => match bt with
    | .append => fun T _ tm => iff (isK T ts 1) (iff (rowK T tx) (iff (ezB T ts) (oAppend s x (limT T (elT T ts)) (ezT T ts) tm) (no 74)) (no 74)) (no 74)
    | .copy => fun T _ tm => iff (isK T ts 1) (iff (ezB T ts) (oCopy s x (ezT T ts) tm) (no 79)) (no 79)
    | _ => fun _ _ _ => no 81
  | _, _ => fun _ _ _ => no 82
def evos (xs : List Operand) (tm : Tm) : List AV := @List.rec Operand (fun _ => List AV) [] (fun x _ ih => evo x tm :: ih) xs
def oFn (f : FuncId) (args : List Operand) : OpF := fun _ call tm => call f (evos args tm)
def oCall (c : Call) : OpF := match c with
  | ⟨.builtin bt, args, tys⟩ => oBi bt args.toList tys.toList
  | ⟨.value (.func f), args, _⟩ => oFn f args.toList
  | _ => fun _ _ _ => no 84
def oNo : OpF := fun _ _ _ => no 83
def evOp (op : Op) : OpF := @Op.rec (fun _ => OpF) oMove oMove oPick oAlloc oBox oBuild oBuildSlice (fun _ _ _ _ => oNo) oLoad oStore (fun _ => oNo) (fun _ => oNo) oNil oBin oUn oConvert (fun _ _ => oNo) (fun _ _ => oNo) (fun _ _ _ => oNo) (fun _ _ => oNo) (fun _ _ => oNo) oMakeSlice oSlice oFieldAddr oField oIndexAddr oIndex (fun _ _ _ _ => oNo) (fun _ _ _ _ => oNo) (fun _ _ _ => oNo) (fun _ _ _ _ => oNo) (fun _ _ => oNo) (fun _ _ => oNo) (fun _ => oNo) (fun _ _ _ _ => oNo) oExtract oCall (fun _ => oNo) (fun _ => oNo) (fun _ => oNo) (fun _ _ => oNo) (fun _ _ _ => oNo) (fun _ _ => oNo) op
inductive Ex where
  | nm
  | ex (id : Nat)
  | rt
abbrev SF := Tab → Cal → Nat → List Oper → Tm → M Tm
def okTm (tm : Tm) (s : St) : R Tm := .ok tm s
def runO (dst : Option Tmp) (op : Op) : SF := fun T call kp _ tm s => @R.rec AV (fun _ => R Tm) (fun v s => tput kp dst v okTm tm s) R.no (evOp op T call tm s)
def skipO (dst : Option Tmp) : SF := fun _ _ kp _ tm => tput kp dst und okTm tm
/-- what the guard's operation has yielded -/
def yldV (v : AV) : Option Bool := @AV.rec (fun _ => Option Bool) (fun x => @Sc.rec (fun _ => Option Bool) (fun b => some b) (fun _ _ => none) (fun _ => none) (fun _ _ => none) (none) (fun _ _ _ _ => none) (none) (none) (fun _ => none) x) (fun _ => none) (fun _ => none) none v
def yldD (ops : List Oper) (j : Nat) : Option Tmp := @Option.rec _ (fun _ => Option Tmp) none (fun o => o.dst) (nth ops j)
def isU (v : AV) : Bool := @AV.rec (fun _ => Bool) (fun x => @Sc.rec (fun _ => Bool) (fun _ => false) (fun _ _ => false) (fun _ => false) (fun _ _ => false) (false) (fun _ _ _ _ => false) (false) (false) (fun _ => true) x) (fun _ => false) (fun _ => false) true v
def guarded (j : Nat) (want : Bool) (dst : Option Tmp) (op : Op) : SF := fun T call kp ops tm => @Option.rec _ (fun _ => M Tm) (no 85) (fun d => iff (isU (tget d tm)) (no 86) (@Option.rec _ (fun _ => M Tm) (skipO dst T call kp ops tm) (fun b => iff (beq2 b want) (runO dst op T call kp ops tm) (skipO dst T call kp ops tm)) (yldV (tget d tm)))) (yldD ops j)
def stepO (o : Oper) : SF := @Oper.rec (fun _ => SF) (fun dst op _ _ _ guard => @Option.rec _ (fun _ => SF) (runO dst op) (fun q => guarded q.1 q.2 dst op) guard) o
def stepsL (T : Tab) (call : Cal) (kp : Nat) (ops : List Oper) (l : List Oper) : Tm → M Tm := @List.rec Oper (fun _ => Tm → M Tm) okTm (fun o _ ih tm s => @R.rec Tm (fun _ => R Tm) ih R.no (stepO o T call kp ops tm s)) l
/-- what stands ahead of each operation -/
def ahead1 (bs : List Nat) : List Edge → Nat → Nat
  | [], m => m
  | e :: l, m => ahead1 bs l (iff (Region.binds .any e) (Nat.lor (Nat.lor m (bit e.on)) (@Option.rec _ (fun _ => Nat) 0 (fun x => x) (nth bs e.on))) m)
def aheads : List Oper → List Nat → List Nat
  | [], bs => bs
  | o :: l, bs => aheads l (bs ++ [ahead1 bs o.after.toList 0])
structure Lg where
  j : Nat
  rd : Nat
  wr : Nat
def clash (rd wr grd gwr : Nat) : Nat := Nat.lor (Nat.land gwr rd) (Nat.lor (Nat.land gwr wr) (Nat.land grd wr))
def apart (bf rd wr : Nat) (l : List Lg) : Bool := @List.rec Lg (fun _ => Bool) true (fun g _ ih => @Nat.rec (fun _ => Bool) (@Nat.rec (fun _ => Bool) ih (fun _ _ => false) (clash rd wr g.rd g.wr)) (fun _ _ => ih) (kept bf g.j)) l
def news (nx nx' : Nat) : Nat := Nat.sub (bit nx') (bit nx)
def forceS (s : St) (f : St → α) : α := @St.rec (fun _ => α) (fun h nx rd wr => forceN rd fun rd => forceN wr fun wr => f ⟨h, nx, rd, wr⟩) s
abbrev DF := List Nat → Nat → List Lg → Tm → M Tm
def oneD (again : DF) (bf : List Nat) (j : Nat) (lg : List Lg) (rd wr nx : Nat) (tm : Tm) (s' : St) : R Tm := @St.rec (fun _ => R Tm) (fun h' nx' rd' wr' => forceN rd' fun rd' => forceN wr' fun wr' =>
  iff (apart (headOr bf 0) rd' wr' lg) (again bf.tail (Nat.succ j) (⟨j, rd', Nat.lor wr' (news nx nx')⟩ :: lg) tm ⟨h', nx', Nat.lor rd rd', Nat.lor wr wr'⟩) (.no (Nat.add 1000 j))) s'
def stepD (T : Tab) (call : Cal) (kp : Nat) (ops : List Oper) (o : Oper) (again : DF) : DF := fun bf j lg tm s => @St.rec (fun _ => R Tm) (fun h nx rd wr => @R.rec Tm (fun _ => R Tm) (oneD again bf j lg rd wr nx) R.no (stepO o T call kp ops tm ⟨h, nx, 0, 0⟩)) s
def stepsD (T : Tab) (call : Cal) (kp : Nat) (ops : List Oper) (l : List Oper) : DF := @List.rec Oper (fun _ => DF) (fun _ _ _ tm => okTm tm) (fun o _ ih => stepD T call kp ops o ih) l
inductive EX where
  | nm (tm : Tm)
  | ex (id : Nat) (tm : Tm)
  | rt (tm : Tm)
abbrev CF := Tab → Cal → Nat → Tm → M EX
def okNm (tm : Tm) (s : St) : R EX := .ok (.nm tm) s
def clr (tm : Tm) : Tm := @Tm.rec (fun _ => Tm) (fun _ v => ⟨.nl, v⟩) tm
def cRegion (ops : Array Oper) (dr : Bool) : CF := fun T call kp tm s => @R.rec Tm (fun _ => R EX) okNm R.no (@Bool.rec (fun _ => M Tm) (stepsL T call kp ops.toList ops.toList (clr tm)) (stepsD T call kp ops.toList ops.toList (aheads ops.toList []) 0 [] (clr tm)) dr s)
def onNm (r : EX) (f : Tm → M EX) : M EX := @EX.rec (fun _ => M EX) f (fun i tm => ret (.ex i tm)) (fun tm => ret (.rt tm)) r
def cSeq (a b : CF) : CF := fun T call kp tm s => @R.rec EX (fun _ => R EX) (fun r => onNm r (b T call kp)) R.no (a T call kp tm s)
def cCond (x : Operand) (a b : CF) : CF := fun T call kp tm => avC 91 (evo x tm) fun s => scB 91 s fun t => @Bool.rec (fun _ => M EX) (b T call kp tm) (a T call kp tm) t
def outOf (id : Nat) (r : EX) : M EX := @EX.rec (fun _ => M EX) (fun tm => ret (.nm tm)) (fun i tm => @Bool.rec (fun _ => M EX) (ret (.ex i tm)) (ret (.nm tm)) (Nat.beq i id)) (fun tm => ret (.rt tm)) r
def cBlock (id : Nat) (a : CF) : CF := fun T call kp tm s => @R.rec EX (fun _ => R EX) (outOf id) R.no (a T call kp tm s)
def loopF (a : Tm → M EX) (n : Nat) : Tm → M EX := @Nat.rec (fun _ => Tm → M EX) (fun _ => no 90) (fun _ ih tm s => @R.rec EX (fun _ => R EX) (fun r s => forceS s (onNm r ih)) R.no (a tm s)) n
def cLoop (a : CF) : CF := fun T call kp tm => loopF (a T call kp) 5000 tm
def cNo : CF := fun _ _ _ _ => no 92
def evC (c : Code) : CF := @Code.rec (fun _ => CF) (fun _ _ _ tm => ret (.nm tm)) (fun _ ops dr => cRegion ops dr) (fun _ _ a b => cSeq a b) (fun x _ _ a b => cCond x a b) (fun id _ a => cBlock id a) (fun _ a => cLoop a) (fun _ _ _ _ _ _ => cNo) (fun id _ _ _ tm => ret (.ex id tm)) (fun _ _ => cNo) (fun _ => cNo) (fun _ => cNo) (fun _ _ _ tm => ret (.rt tm)) (fun _ => cNo) c
def resV (r : ResultVar) (T : Tab) (tm : Tm) : M AV := match r with
  | .tmp t => ret (tget t tm)
  | .cell a t => oLoad t (.tmp a) T (fun _ _ => no 93) tm
def tcOf (v : AV) : Option TC := @AV.rec (fun _ => Option TC) (fun x => some (.c x)) (fun l => some (.ag l)) (fun _ => none) none v
def resVs (T : Tab) (tm : Tm) : List ResultVar → M (List TC)
  | [] => ret []
  | r :: l => bnd (resV r T tm) fun v => optm 94 (tcOf v) fun c => bnd (resVs T tm l) fun vs => ret (c :: vs)
def results (rs : List ResultVar) (T : Tab) (tm : Tm) : M AV := match rs with
  | [r] => resV r T tm
  | rs => bnd (resVs T tm rs) fun l => ret (.tp l)
def setAll (l : List AV) : Nat → Vs → (Vs → α) → α := @List.rec AV (fun _ => Nat → Vs → (Vs → α) → α) (fun _ t K => K t) (fun v _ ih i t K => set3 i v t fun t => ih (Nat.succ i) t K) l
def endF (T : Tab) (rs : List ResultVar) (r : EX) : M AV := @EX.rec (fun _ => M AV) (results rs T) (fun _ _ => no 96) (results rs T) r
/-- the parameters are kept -/
def keeps (kp n : Nat) : Bool := Nat.beq (Nat.land kp (Nat.pred (bit n))) (Nat.pred (bit n))
def bodyF (T : Tab) (call : Cal) (args : List AV) (kp : Nat) (fn : Func) : M AV := optm 95 fn.body fun c => iff (keeps kp args.length) (iff (Nat.ble args.length fn.ntmps) (iff (Nat.ble fn.ntmps 512) (setAll args 0 (full3 .u) fun v s => @R.rec EX (fun _ => R AV) (endF T fn.results.toList) R.no (evC c T call kp ⟨.nl, v⟩ s)) (no 98)) (no 98)) (no 99)
def evF (T : Tab) (n : Nat) : Cal := @Nat.rec (fun _ => Cal) (fun _ _ => no 97) (fun _ ih f args => @Option.rec _ (fun _ => M AV) (optm (Nat.add 10000 f) (T.f f) (bodyF T ih args (T.kp f))) ret (T.hk f args)) n
end
end Ev
end Go.Proofs.YtgfhddhkillchaaGreatDoor
