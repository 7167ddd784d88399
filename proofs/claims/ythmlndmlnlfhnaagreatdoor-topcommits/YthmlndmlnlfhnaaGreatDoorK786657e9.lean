import Derived.Ground.NamesProg
import Derived.Ground.Names2Prog
import Derived.Shelf.Small.Strs
import Derived.Shelf.Spec.SearchS
import Derived.Test.YthmlndmlnlfhnaaGreatDoorProg
import Derived.Test.YthmlndmlnlfhnaaGreatDoorKebc7142b
import Derived.Test.YthmlndmlnlfhnaaGreatDoorKda032838
set_option maxRecDepth 100000
set_option maxHeartbeats 16000000
namespace Go.Proofs.YthmlndmlnlfhnaaGreatDoor
def ltS (a b:ByteArray):Bool:=Op.bytesLess a.toList b.toList
theorem jrr (a:ByteArray):ltS a a=false:=jel _
theorem jut {a b c:ByteArray} (h:ltS a b=true) (h':ltS b c=true):ltS a c=true:=jhy h h'
theorem yiu {a b:ByteArray} (h:a.toList=b.toList):a=b:=by
 rw [ByteArray.toList_eq,ByteArray.toList_eq] at h
 cases a;cases b
 simp at h
 rw [h]
theorem ybp {a b:ByteArray} (h:ltS a b=false) (hne:a≠b):ltS b a=true:=jng h fun e=>hne (yiu e)
section
variable {α:Type} {f:α→ByteArray}
theorem jlb {l:List α}:jdc f l=true↔l.Pairwise fun a b=>ltS (f a) (f b)=true:=by
 induction l with
 | nil=>simp [jdc]
 | cons a l ih =>
  rw [List.pairwise_cons]
  constructor
  ·intro h;exact ⟨jqq h,ih.1 (jqs h)⟩
  ·rintro ⟨h1,h2⟩
   cases l with
   | nil=>rfl
   | cons b l =>
    simp only [jdc,Bool.and_eq_true,Bool.not_eq_true']
    exact ⟨jum.2 (h1 b (by simp)),ih.2 h2⟩
theorem jm1 {l:List α} (h:jdc f l=true) (p:α→Bool):jdc f (l.filter p)=true:=jlb.2 ((jlb.1 h).filter p)
def insF (f:α→ByteArray) (l:List α) (x:α):List α:=l.takeWhile (fun y=>ltS (f y) (f x)) ++ x :: l.dropWhile (fun y=>ltS (f y) (f x))
def posF (f:α→ByteArray) (l:List α) (s:ByteArray):Nat:=(l.takeWhile (fun y=>ltS (f y) s)).length
theorem jyt {l:List α} {x y:α}:y∈insF f l x↔y=x∨y∈l:=by
 have:y∈l↔y∈l.takeWhile (fun y=>ltS (f y) (f x))∨y∈l.dropWhile (fun y=>ltS (f y) (f x)):=by
  rw [← List.mem_append,List.takeWhile_append_dropWhile]
 unfold insF
 rw [this]
 simp only [List.mem_append,List.mem_cons]
 constructor
 ·rintro (h | h | h)
  ·exact .inr (.inl h)
  ·exact .inl h
  ·exact .inr (.inr h)
 ·rintro (h | h | h)
  ·exact .inr (.inl h)
  ·exact .inl h
  ·exact .inr (.inr h)
theorem jip (l:List α) (x:α):(insF f l x).length=l.length+1:=by
 have:=congrArg List.length (List.takeWhile_append_dropWhile (p:=fun y=>ltS (f y) (f x)) (l:=l))
 rw [List.length_append] at this
 unfold insF
 simp only [List.length_append,List.length_cons]
 omega
theorem jpr (l:List α) (s:ByteArray):posF f l s≤l.length:=(List.takeWhile_sublist _).length_le
theorem jq0 (l:List α) (s:ByteArray):l.takeWhile (fun y=>ltS (f y) s)=l.take (posF f l s):=by
 have h:=List.takeWhile_append_dropWhile (p:=fun y=>ltS (f y) s) (l:=l)
 have h2:l.take (posF f l s)=(l.takeWhile (fun y=>ltS (f y) s) ++ l.dropWhile (fun y=>ltS (f y) s)).take (posF f l s):=by rw [h]
 rw [h2,List.take_append_of_le_length (by simp [posF]),List.take_of_length_le (by simp [posF])]
theorem jp3 (l:List α) (s:ByteArray):l.dropWhile (fun y=>ltS (f y) s)=l.drop (posF f l s):=by
 have h:=List.takeWhile_append_dropWhile (p:=fun y=>ltS (f y) s) (l:=l)
 have h2:l.drop (posF f l s)=(l.takeWhile (fun y=>ltS (f y) s) ++ l.dropWhile (fun y=>ltS (f y) s)).drop (posF f l s):=by rw [h]
 rw [h2,List.drop_append_of_le_length (by simp [posF]),List.drop_of_length_le (by simp [posF]),List.nil_append]
theorem juh (l:List α) (x:α):insF f l x=l.take (posF f l (f x)) ++ x :: l.drop (posF f l (f x)):=by
 unfold insF;rw [jq0,jp3]
theorem jvw {p:α→Bool} {l:List α} {y:α} {m:List α} (h:l.dropWhile p=y :: m):p y=false:=by
 induction l with
 | nil=>simp at h
 | cons a l ih =>
  rw [List.dropWhile_cons] at h
  split at h
  ·exact ih h
  ·rename_i hp
   injection h with h1 h2;subst h1;simpa using hp
theorem jy0 {p:α→Bool} {l:List α} {y:α} (h:y∈l.takeWhile p):p y=true:=by
 induction l with
 | nil=>simp at h
 | cons a l ih =>
  rw [List.takeWhile_cons] at h
  split at h
  ·rename_i hp
   rcases List.mem_cons.1 h with rfl | h
   ·exact hp
   ·exact ih h
  ·simp at h
theorem yb7 {l:List α} {s:ByteArray} {k:Nat} {x:α} (hk:k<posF f l s) (h:l[k]? = some x):ltS (f x) s=true:=by
 have h2:(l.takeWhile (fun y=>ltS (f y) s))[k]? = some x:=by rw [jq0,List.getElem?_take_of_lt hk];exact h
 exact jy0 (p:=fun y=>ltS (f y) s) (List.mem_of_getElem? h2)
theorem jxi {l:List α} (hr:jdc f l=true) {s:ByteArray} {k:Nat} {x:α} (hk:posF f l s≤k) (h:l[k]? = some x):ltS (f x) s=false:=by
 have h2:(l.dropWhile (fun y=>ltS (f y) s))[k-posF f l s]? = some x:=by rw [jp3,List.getElem?_drop];rw [show posF f l s+(k-posF f l s)=k from by omega];exact h
 cases hd:l.dropWhile (fun y=>ltS (f y) s) with
 | nil=>rw [hd] at h2;simp at h2
 | cons y m =>
  have hy:=jvw hd
  rw [hd] at h2
  have hpm:(y :: m).Pairwise fun a b=>ltS (f a) (f b)=true:=by rw [← hd];exact (jlb.1 hr).sublist (List.dropWhile_sublist _)
  have hx:=List.mem_of_getElem? h2
  rcases List.mem_cons.1 hx with rfl | hx
  ·exact hy
  ·have h3:=(List.pairwise_cons.1 hpm).1 x hx
   cases h4:ltS (f x) s
   ·rfl
   ·have:=jut h3 h4;rw [hy] at this;cases this
theorem jui {l:List α} {x:α} (h:jdc f l=true) (hne:∀ y∈l,f y≠f x):jdc f (insF f l x)=true:=by
 have hp:=jlb.1 h
 rw [juh]
 refine jlb.2 (List.pairwise_append.2 ⟨hp.sublist (List.take_sublist _ _),List.pairwise_cons.2 ⟨fun y hy=>?_,hp.sublist (List.drop_sublist _ _)⟩,fun a ha b hb=>?_⟩)
 ·obtain ⟨k,hk⟩:=List.mem_iff_getElem?.1 hy
  rw [List.getElem?_drop] at hk
  exact ybp (jxi h (by omega) hk) (hne y (List.mem_of_getElem? hk))
 ·have hax:ltS (f a) (f x)=true:=by
   obtain ⟨k,hk⟩:=List.mem_iff_getElem?.1 ha
   have hkl:=(List.getElem?_eq_some_iff.1 hk).1
   rw [List.length_take] at hkl
   rw [List.getElem?_take_of_lt (by omega)] at hk
   exact yb7 (by omega) hk
  rcases List.mem_cons.1 hb with rfl | hb
  ·exact hax
  ·obtain ⟨k,hk⟩:=List.mem_iff_getElem?.1 hb
   rw [List.getElem?_drop] at hk
   exact jut hax (ybp (jxi h (by omega) hk) (hne b (List.mem_of_getElem? hk)))
end
def jo2 (l:List ByteArray):Bool:=jdc (fun s=>s) l
def jbg (l:List ByteArray) (s:ByteArray):List ByteArray:=if hasN l s then l else insF (fun s=>s) l s
theorem jho {l:List ByteArray} (s:ByteArray) (h:jo2 l=true):jo2 (jbg l s)=true:=by
 unfold jbg
 split
 ·exact h
 ·rename_i hn
  exact jui h fun y hy e=>hn (jej.2 (e ▸ hy))
theorem jfn (l:List ByteArray) (s:ByteArray):(jbg l s).length≤l.length+1:=by
 unfold jbg
 split
 ·omega
 ·rw [jip];omega
def jay (l:List ByteArray) (m:List ByteArray):List ByteArray:=m.foldl jbg l
theorem jen {m:List ByteArray}:∀ {l:List ByteArray},jo2 l=true→jo2 (jay l m)=true:=by
 induction m with
 | nil=>intro l h;exact h
 | cons s m ih=>intro l h;exact ih (jho s h)
theorem jds {m:List ByteArray}:∀ {l:List ByteArray},(jay l m).length≤l.length+m.length:=by
 induction m with
 | nil=>intro l;exact Nat.le_refl _
 | cons s m ih =>
  intro l
  have h1:=@ih (jbg l s)
  have h2:=jfn l s
  show (jay (jbg l s) m).length≤_
  simp only [List.length_cons]
  omega
def jif:BookD:=⟨[],[]⟩
def ja2 (b:BookD) (s:ByteArray):BookD:=⟨b.doms.filter fun d=>!jap d.1 s,b.tabs.filter fun t=>!jap t.name s⟩
def jgj (b:BookD) (d:DomD):BookD:=⟨insF (·.1) (ja2 b d.1).doms d,(ja2 b d.1).tabs⟩
def jd1 (b:BookD) (t:TabD):BookD:=⟨(ja2 b t.name).doms,insF (·.name) (ja2 b t.name).tabs t⟩
def jb2 (b:BookD) (s:ByteArray):Bs :=
 match jdj b.doms s with
 | some d=>if jef d then domT d else []
 | none=>match jb3 b.tabs s with
  | some t=>if jbd t then jmd t else []
  | none=>[]
def jf0 (b:BookD) (mine:BookD) (gone:List ByteArray):BookD:=mine.tabs.foldl jd1 (mine.doms.foldl jgj (gone.foldl ja2 b))
def jdp (b:BookD):List ByteArray:=b.doms.map (·.1) ++ b.tabs.map (·.name)
def jgw (l:List BookD):List ByteArray:=jay [] (l.flatMap jdp)
structure SessD where
 opn:Bool
 strict:Bool
 frm:Nat
 mine:BookD
 gone:List ByteArray
 read:List ByteArray
def jjn:SessD:=⟨false,false,0,jif,[],[]⟩
structure StoreD where
 later:List BookD
 sess:List SessD
 acts:Nat
def newV:StoreD:=⟨[],[jjn,jjn,jjn,jjn],0⟩
structure ActD where
 kind:Int
 n:Int
 name:ByteArray
 text:ByteArray
 inp:List Int
structure ReplyD where
 code:Int
 n:Int
 text:ByteArray
 answers:List AnsD
 at_:List Int
def jb8 (c:Int):ReplyD:=⟨c,0,noS,[],[]⟩
def numR (n:Int):ReplyD:=⟨0,n,noS,[],[]⟩
def StoreD.states (σ:StoreD):List BookD:=jif :: σ.later
def StoreD.last (σ:StoreD):Nat:=σ.later.length
def StoreD.ver (σ:StoreD) (n:Nat):BookD:=(σ.states[n]?).getD jif
def StoreD.sessN (σ:StoreD) (n:Nat):SessD:=(σ.sess[n]?).getD jjn
def jcp (σ:StoreD) (n:Int):Bool:=decide (0≤n) && decide (n<4) && (σ.sessN n.toNat).opn
def jce (σ:StoreD) (n:Int):SessD:=if jcp σ n then σ.sessN n.toNat else jjn
def jfu (σ:StoreD) (x:SessD):BookD:=jf0 (σ.ver x.frm) x.mine x.gone
def jmt (σ:StoreD) (strict:Int):StoreD × ReplyD :=
 if strict≠0∧strict≠1 then (σ,jb8 2)
 else match σ.sess.findIdx? (fun x=>!x.opn) with
  | none=>(σ,jb8 11)
  | some n=>(⟨σ.later,σ.sess.set n ⟨true,decide (strict=1),σ.last,jif,[],[]⟩,σ.acts⟩,numR n)
def putV (x:SessD) (s:ByteArray):SessD × ReplyD :=
 let r:=jdz s.data.toList
 if r.2.2.2≠0 then (x,jb8 r.2.2.2)
 else if r.2.2.1 then ({ x with mine:=jd1 x.mine r.2.1,gone:=jbg x.gone r.2.1.name },jb8 0)
 else ({ x with mine:=jgj x.mine r.1,gone:=jbg x.gone r.1.1 },jb8 0)
def jky (x:SessD) (s:ByteArray):SessD × ReplyD :=
 if jdr s=false then (x,jb8 1) else ({ x with mine:=ja2 x.mine s,gone:=jbg x.gone s },jb8 0)
def getV (σ:StoreD) (x:SessD) (s:ByteArray):SessD × ReplyD :=
 if jdr s=false then (x,jb8 1)
 else ({ x with read:=jbg x.read s },if jb2 (jfu σ x) s = [] then jb8 3 else ⟨0,0,⟨(jb2 (jfu σ x) s).toArray⟩,[],[]⟩)
def jln (σ:StoreD) (x:SessD):List ByteArray :=
 let r:=jay x.read (jgw [σ.ver x.frm,jfu σ x])
 if x.strict then jbg r noS else r
def jpi (σ:StoreD) (x:SessD) (l:List Int):SessD × ReplyD :=
 ({ x with read:=jln σ x },⟨(askV (jfu σ x) l).2,0,noS,(askV (jfu σ x) l).1,[]⟩)
def jjs (a b:BookD):List ByteArray:=(jgw [a,b]).filter fun s=>decide (jb2 a s≠jb2 b s)
def jk1 (σ:StoreD) (frm:Nat):List ByteArray :=
 jay [] ((List.range (σ.last-frm)).flatMap fun i=>jjs (σ.ver (frm+i)) (σ.ver (frm+i+1)))
def jh1 (x:SessD) (s:ByteArray):Bool:=hasN x.gone s || (x.strict && (hasN x.read s || hasN x.read noS))
def jh0 (σ:StoreD) (x:SessD):Option ByteArray:=(jk1 σ x.frm).find? (jh1 x)
def jer (σ:StoreD) (x:SessD):StoreD × ReplyD :=
 match jh0 σ x with
 | some s=>(σ,⟨9,0,s,[],[]⟩)
 | none =>
  if x.gone.length=0 then (σ,numR σ.last)
  else if 40 ≤ σ.last+1 then (σ,jb8 11)
  else
   let next:=jf0 (σ.ver σ.last) x.mine x.gone
   let r:=ja6 next
   if r.2.2≠0 then (σ,⟨r.2.2,0,r.1,[],r.2.1⟩)
   else (⟨σ.later ++ [next],σ.sess,σ.acts⟩,numR (σ.last+1))
def jaq (σ:StoreD) (n:Nat) (x:SessD):StoreD:=⟨σ.later,σ.sess.set n x,σ.acts⟩
def ja8 (σ:StoreD) (n:Nat) (a:ActD):StoreD × ReplyD :=
 let x:=σ.sessN n
 if a.kind=2 then (jaq σ n (putV x a.text).1,(putV x a.text).2)
 else if a.kind=3 then (jaq σ n (jky x a.name).1,(jky x a.name).2)
 else if a.kind=4 then (jaq σ n (getV σ x a.name).1,(getV σ x a.name).2)
 else if a.kind=5 then (jaq σ n (jpi σ x a.inp).1,(jpi σ x a.inp).2)
 else if a.kind=6 then jer (jaq σ n jjn) x
 else (jaq σ n jjn,jb8 0)
def jbj (σ:StoreD):StoreD:=⟨σ.later,σ.sess,σ.acts+1⟩
def doV (σ:StoreD) (a:ActD):StoreD × ReplyD :=
 if 200 ≤ σ.acts then (σ,jb8 11)
 else if a.kind=1 then jmt (jbj σ) a.n
 else if 2≤a.kind∧a.kind≤7 then
  if jcp σ a.n then ja8 (jbj σ) a.n.toNat a else (jbj σ,jb8 3)
 else (jbj σ,jb8 10)
end Go.Proofs.YthmlndmlnlfhnaaGreatDoor
namespace Go.Proofs
open Go.Shelf
def Tryz.compare_ren:Go.Shelf.Ren:=⟨fun | 106=>99 | 213=>146 | 265=>180 | n=>n,fun | 9=>9 | 3=>3 | n=>n,fun | n=>n⟩
theorem Tryz.compare:Go.Proofs.Lays.n106 Tryz.prog Tryz.compare_ren:={
 mixed:=by kernel_rfl
 f106:=Tryz.func99.trans (congrArg some (by kernel_rfl))
 f213:=Tryz.func146.trans (congrArg some (by kernel_rfl))
 f265:=Tryz.func180.trans (congrArg some (by kernel_rfl))
 t3:=Tryz.underlying3
 a3:=Tryz.isAgg3
 z3:=Tryz.sizeOf3
 v3:=Tryz.zeroValue3
 t9:=Tryz.underlying9
 a9:=Tryz.isAgg9
 z9:=Tryz.sizeOf9
 v9:=Tryz.zeroValue9 }
def Tryz.bsearch_ren:Go.Shelf.Ren:=⟨fun | 26=>154 | 33=>185 | 34=>186 | 38=>208 | n=>n,fun | 24=>39 | 9=>9 | 3=>3 | 4=>4 | 40=>208 | 0=>0 | n=>n,fun | n=>n⟩
theorem Tryz.bsearch:Go.Proofs.Lays2.n26 Tryz.prog Tryz.bsearch_ren:={
 mixed:=by kernel_rfl
 f26:=Tryz.func154.trans (congrArg some (by kernel_rfl))
 f33:=Tryz.func185.trans (congrArg some (by kernel_rfl))
 f34:=Tryz.func186.trans (congrArg some (by kernel_rfl))
 f38:=Tryz.func208.trans (congrArg some (by kernel_rfl))
 t0:=Tryz.underlying0
 a0:=Tryz.isAgg0
 z0:=Tryz.sizeOf0
 v0:=Tryz.zeroValue0
 t3:=Tryz.underlying3
 a3:=Tryz.isAgg3
 z3:=Tryz.sizeOf3
 v3:=Tryz.zeroValue3
 t4:=Tryz.underlying4
 a4:=Tryz.isAgg4
 z4:=Tryz.sizeOf4
 v4:=Tryz.zeroValue4
 t9:=Tryz.underlying9
 a9:=Tryz.isAgg9
 z9:=Tryz.sizeOf9
 v9:=Tryz.zeroValue9
 t24:=Tryz.underlying39
 a24:=Tryz.isAgg39
 z24:=Tryz.sizeOf39
 v24:=Tryz.zeroValue39
 t40:=Tryz.underlying208
 a40:=Tryz.isAgg208
 z40:=Tryz.sizeOf208
 v40:=Tryz.zeroValue208 }
end Go.Proofs
namespace Go.Proofs.YthmlndmlnlfhnaaGreatDoor
open Go.RowKit Go.Shelf
abbrev SlV:=Option Addr × Nat × Nat
abbrev RawT:=ByteArray × Int × Bool × SlV × SlV
def ja0 (d:DomD):List Value:=[.string d.1,.int .i64 d.2.1,.int .i64 d.2.2]
def jbc (t:RawT):List Value:=[.string t.1,.int .i64 t.2.1,.bool t.2.2.1,.slice t.2.2.2.1.1 t.2.2.2.1.2.1 t.2.2.2.1.2.2,.slice t.2.2.2.2.1 t.2.2.2.2.2.1 t.2.2.2.2.2.2]
theorem jll (x:DomD):(ja0 x).length=3:=rfl
theorem jlm (x:RawT):(jbc x).length=5:=rfl
theorem yd5 (x:DomD):∀ u∈ja0 x,u.oneCell'=true:=by intro u hu;simp [ja0] at hu;rcases hu with rfl | rfl | rfl <;> rfl
theorem yd7 (x:RawT):∀ u∈jbc x,u.oneCell'=true:=by intro u hu;simp [jbc] at hu;rcases hu with rfl | rfl | rfl | rfl | rfl <;> rfl
theorem jcr {α:Type} {p:α→Bool} {l:List α} {k:Nat} {x:α} (h:l[k]? = some x):(l.take (k+1)).filter p=(l.take k).filter p ++ (if p x then [x] else []):=by
 rw [jai h,List.filter_append];cases hp:p x <;> simp [hp]
theorem jna {P:Program} (w:World) {ops:Array Oper} {rest:List Oper} {o:Oper} {a:Act} {Q:Exit→Act→World→Prop} (hgd:o.guard=none) (s:Operand) (t:TypeId)
  (ho:o.op = .call { callee:=.builtin .clear,args:=#[s],argTypes:=#[t] }) (v:Value) (hs:a.eval s=v) {v':Value} {w':World}
  (hr:(Builtin.clear_ #[t] o.type #[v]).run P w = .ok v' w') (h:wpList P ops Q rest (a.put o.dst v') w'):wpList P ops Q (o :: rest) a w:=by
 refine wpList_plain hgd fun K hK=>?_
 unfold Oper.wp execOp
 simp only [ho,resolve,invoke,builtin,Sem.run_bind,Sem.run_pure,Result.andThen_ok,List.map_toArray,List.map_cons,List.map_nil,hs,hr]
 exact hK _ _ h
theorem yg2:Tryz.prog.underlying 35=some (.slice 58):=by kernel_rfl
theorem yj3 (w:World):(zeroValue 58).run Tryz.prog w = .ok (.agg #[.string ⟨#[]⟩,.int .i64 0,.int .i64 0]) w:=by kernel_rfl
theorem yfh (nm:ByteArray) (lo hi:Int) (s:ByteArray) (nb:Nat) (w:World) (h:w.cell? ⟨nb,0,none⟩=some (.string s)) :
  Calls Tryz.prog 105 #[.agg #[.string nm,.int .i64 lo,.int .i64 hi],.pointer (some ⟨nb,0,none⟩)] w fun e w'=>e = .returned (.bool (jap nm s))∧Below w.heap.size w w':=by
 have h':(w.alloc (.cells #[.string nm,.int .i64 lo,.int .i64 hi] 58)).cell? ⟨nb,0,none⟩=some (.string s):=Lib.cell?_alloc_some _ h
 go_enter Tryz.func105,Tryz.ntmps105
 go_wp2
 go_ret
 exact ⟨rfl,jac _ _⟩
theorem yeg {w:World} {A:Option Addr} {c:Nat} {l:List DomD} (h:Raw w 3 (.slice A l.length c) l.length (l.flatMap ja0)) {k:Nat} (hk:k<l.length) :
  ∃ b o,∃ (nm:ByteArray) (lo hi:Int),A=some ⟨b,o,none⟩∧Hid (l[k]? = some (nm,lo,hi))∧b<w.heap.size∧w.cell? ⟨b,o+k*3,none⟩=some (.string nm)∧w.cell? ⟨b,o+k*3+1,none⟩=some (.int .i64 lo)∧w.cell? ⟨b,o+k*3+2,none⟩=some (.int .i64 hi):=by
 obtain ⟨A',c',e,_,_,_,_,h6,_⟩:=h
 injection e with e1 e2 e3
 subst e1
 obtain ⟨b,o,rfl,h7⟩:=h6 (by omega)
 have hx:=List.getElem?_eq_getElem hk
 generalize l[k]=x at hx
 obtain ⟨nm,lo,hi⟩:=x
 have hg:=fun j (hj:j<3) v (hv:(ja0 (nm,lo,hi))[j]? = some v)=>h7 (k*3+j) v ((jog jll hx hj).trans hv)
 have g0:=hg 0 (by decide) _ rfl
 refine ⟨b,o,nm,lo,hi,rfl,hx,World.block_lt_of_cell? w _ g0,(by have:=hg 0 (by decide) _ rfl;rw [← this];congr 2),(by have:=hg 1 (by decide) _ rfl;rw [← this];congr 2),(by have:=hg 2 (by decide) _ rfl;rw [← this];congr 2)⟩
theorem ykm (l:List DomD) (v:Value) (s:ByteArray) (nb:Nat) (w:World) (h:Raw w 3 v l.length (l.flatMap ja0)) (hv:∀ k,v.ownBlock=some k→k<w.heap.size) (hn:w.cell? ⟨nb,0,none⟩=some (.string s)) :
  Calls Tryz.prog 151 #[v,.func (.func 105) #[] #[.pointer (some ⟨nb,0,none⟩)]] w fun e w'=>((e = .returned (.int .i64 (-1))∧Hid (l.filter (fun x=>!jap x.1 s)=l))∨∃ (k:Nat) (x:DomD),e = .returned (.int .i64 k)∧k<l.length∧Hid (l[k]? = some x)∧Hid (jap x.1 s=true)∧Hid ((l.take k).filter (fun x=>!jap x.1 s)=l.take k))∧Below w.heap.size w w':=by
 have H:=Lib.hid h
 have HN:=Lib.hid hn
 have HV:=Lib.hid hv
 have hnl:nb<w.heap.size:=World.block_lt_of_cell? w _ hn
 obtain ⟨A,cp,rfl,hc1,hc2,-⟩:=h
 unfold maxLen at hc2
 clear hn hv
 have eg:∀ args w,(callFunc 105 args).run Tryz.prog w = .ok (.enter 105 args) w:=enters_of Tryz.func105 (by kernel_rfl) rfl
 go_enter Tryz.func151,Tryz.ntmps151
 go_wp2
 go_loopw [8] (fun i wr=>∃ k:Nat,k≤l.length∧i = .int .i64 k∧Hid ((l.take k).filter (fun x=>!jap x.1 s)=l.take k)∧Below w.heap.size w wr) (fun i _=>l.length-(intOf i).toNat)
 case atStart=>exact ⟨0,Nat.zero_le _,rfl,rfl,Below.refl _ _⟩
 case round =>
  obtain ⟨k,hk,rfl,hf,hb⟩:=hrel
  by_cases hlt:k<l.length
  ·obtain ⟨b,o,nm,lo,hi,rfl,hx,hbl,c0,c1,c2⟩:=yeg (H.out.keep (w':=wr) (fun _ p hp=>hb.cell (HV.out _ hp))) hlt
   have HN1:Hid (wr.cell? ⟨nb,0,none⟩=some (.string s)):=(hb.cell (p:=⟨nb,0,none⟩) hnl).trans HN.out
   go_wp2_with fail
   refine (yfh nm lo hi s nb _ HN1.out).mono ?_
   rintro e w1 ⟨rfl,hb1⟩
   have hb01:=bx hb hb1
   cases hq:jap nm s
   ·have HQ:Hid ((l.take (k+1)).filter (fun x=>!jap x.1 s)=l.take (k+1)):=by
     show _=_
     rw [jcr hx.out,hf.out,jai hx.out];simp [hq]
    clear hq
    go_wp2
    exact ⟨⟨k+1,by omega,by go_num,HQ,hb01⟩,by simp [intOf];omega⟩
   ·have HQ:=Lib.hid hq
    clear hq
    go_wp2
    go_ret
    exact ⟨.inr ⟨k,_,rfl,hlt,hx,HQ,hf⟩,hb01⟩
  ·have e:l.take k=l:=List.take_of_length_le (by omega)
   have hf':=hf.out
   rw [e] at hf'
   have HQ:=Lib.hid hf'
   clear hf'
   go_wp2
   go_ret
   exact ⟨.inl ⟨rfl,HQ⟩,hb⟩
theorem yg0 (l:List DomD) (v:Value) (base:Nat) (s:ByteArray) (nb:Nat) (w:World) (h:w.ownsRow base 58 3 v l.length (l.flatMap ja0)) (hn:w.cell? ⟨nb,0,none⟩=some (.string s)) (hnb:v.ownBlock≠some nb) :
  Calls Tryz.prog 104 #[v,.func (.func 105) #[] #[.pointer (some ⟨nb,0,none⟩)]] w fun e w'=>∃ v',e = .returned v'∧w'.ownsRow base 58 3 v' (l.filter fun x=>!jap x.1 s).length ((l.filter fun x=>!jap x.1 s).flatMap ja0)∧w.grownBy w' v.ownBlock∧jed w v v':=by
 have HN:=Lib.hid hn
 have hnl:nb<w.heap.size:=World.block_lt_of_cell? w _ hn
 have hraw:=jkl h (by intro u hu;obtain ⟨x,_,hx⟩:=List.mem_flatMap.1 hu;exact yd5 x u hx)
 have HR:=Lib.hid hraw
 have HL:=Lib.hid (fun k hk=>(h.lt k hk).2)
 have HO:=Lib.hid h
 obtain ⟨A,cap,rfl,hc1,hc2,-⟩:=jah h
 unfold maxLen at hc2
 have eg:∀ args w,(callFunc 105 args).run Tryz.prog w = .ok (.enter 105 args) w:=enters_of Tryz.func105 (by kernel_rfl) rfl
 clear h hn hraw
 go_enter Tryz.func104,Tryz.ntmps104
 go_wp2_with fail
 refine (ykm l _ s nb _ HR.out HL.out HN.out).mono ?_
 rintro e w1 ⟨⟨rfl,hF⟩ | ⟨k,x,rfl,hk,hx,hs,hF⟩,hb1⟩
 ·go_wp2
  go_ret
  rw [hF.out]
  exact ⟨_,rfl,ja1 HO.out (fun g hg=>hb1.block g (HL.out g hg)),jbb hb1,jed.refl _ _⟩
 ·rcases HO.out.2 with ⟨e,h0⟩ | ⟨g,cap',cur,e,hg0,hg,hnc,hcm,hcs,hcx⟩
  ·omega
  ·injection e with e1 e2 e3
   subst e1 e3
   have hgl:=(Array.getElem?_eq_some_iff.1 hg).1
   have hgn:g≠nb:=fun e=>hnb (by rw [← e];rfl)
   have hfl:=jil jll l
   have hcl:cur.toList.length=cap*3:=by simpa using hcs
   have hk1:((k:Int) == -1)=false:=by rw [beq_eq_false_iff_ne];omega
   have hwk:IntKind.i64.wrap ((k:Int)+1)=((k+1:Nat):Int):=by rw [IntKind.wrap_i64];omega
   have hg1:Hid (w1.heap[g]? = some (.cells cur 58 (0,0))):=(hb1.block g hgl).trans hg
   have hA0:Hid (∀ q,q<k*3→cur.toList[q]? = (((l.take (k+1)).filter fun x=>!jap x.1 s).flatMap ja0)[q]?):=by
    intro q hq
    rw [jcr hx.out,hF.out]
    simp only [hs.out,Bool.not_true,Bool.false_eq_true,if_false,List.append_nil]
    rw [jp6 jll,List.getElem?_take_of_lt hq,← hcx,List.getElem?_take_of_lt (by omega)]
   have hB0:Hid (∀ q,(k+1)*3≤q→q<l.length*3→cur.toList[q]? = (l.flatMap ja0)[q]?):=by
    intro q _ hq
    rw [← hcx,List.getElem?_take_of_lt hq]
   have hF0:Hid (((l.take (k+1)).filter fun x=>!jap x.1 s).length=k):=by
    show _=_
    rw [jcr hx.out,hF.out]
    simp [hs.out];omega
   have HS:Hid (cur.size=cap*3):=hcs
   have HG1:Hid (w.grownBy w1 (some g)):=jbb hb1
   have hpx:Hid ((!jap x.1 s)=false):=by show _=_;rw [hs.out];rfl
   clear hg hcx hcl hcs hfl HR HO hb1
   go_wp2
   go_loopw [5,6] (fun a b wr=>∃ (i j:Nat) (cu:Array Value),i<j∧k+1≤j∧j≤l.length∧a = .int .i64 i∧b = .int .i64 j∧Hid (((l.take j).filter fun x=>!jap x.1 s).length=i)∧Hid (wr.heap[g]? = some (.cells cu 58 (0,0)))∧Hid (cu.size=cap*3)∧Hid (∀ q,q<i*3→cu.toList[q]? = (((l.take j).filter fun x=>!jap x.1 s).flatMap ja0)[q]?)∧Hid (∀ q,j*3≤q→q<l.length*3→cu.toList[q]? = (l.flatMap ja0)[q]?)∧Hid (w.grownBy wr (some g))) (fun _ b _=>l.length-(intOf b).toNat)
   case atStart=>exact ⟨k,k+1,cur,by omega,by omega,by omega,rfl,by go_num,hF0,hg1,HS,hA0,hB0,HG1⟩
   case round =>
    clear hA0 hB0 hF0 hg1 HS HG1
    obtain ⟨i,j,cu,hij,hkj,hjl,rfl,rfl,hFi,hgr,hcz,hA,hB,hG⟩:=hrel
    by_cases hlt:j<l.length
    ·have hy:=List.getElem?_eq_getElem hlt
     generalize l[j]=y at hy
     have HY:=Lib.hid hy
     obtain ⟨nm,lo,hi⟩:=y
     have hcc:∀ q (hq:q<3) u,(ja0 (nm,lo,hi))[q]? = some u→wr.cell? ⟨g,j*3+q,none⟩=some u:=fun q hq u hu=>jbk hgr.out ((hB.out (j*3+q) (by omega) (by omega)).trans ((jog jll hy hq).trans hu))
     have l0:wr.cell? ⟨g,j*3,none⟩=some (.string nm):=hcc 0 (by decide) _ rfl
     have l1:wr.cell? ⟨g,j*3+1,none⟩=some (.int .i64 lo):=hcc 1 (by decide) _ rfl
     have l2:wr.cell? ⟨g,j*3+2,none⟩=some (.int .i64 hi):=hcc 2 (by decide) _ rfl
     clear hcc hy
     have hbz:=jac wr (.cells #[.string nm,.int .i64 lo,.int .i64 hi] 58)
     have CN:=Lib.hid (Cs.new wr ([.string nm,.int .i64 lo,.int .i64 hi]) 58)
     change Hid (Cs (wr.alloc (.cells #[.string nm,.int .i64 lo,.int .i64 hi] 58)) _ _) at CN
     have hGz:Hid (w.grownBy (wr.alloc (.cells #[.string nm,.int .i64 lo,.int .i64 hi] 58)) (some g)):=World.grownBy.trans' hG.out (jbb hbz)
     have hgz:Hid ((wr.alloc (.cells #[.string nm,.int .i64 lo,.int .i64 hi] 58)).heap[g]? = some (.cells cu 58 (0,0))):=(hbz.block g ((Array.getElem?_eq_some_iff.1 hgr.out).1)).trans hgr.out
     have hzz:wr.heap.size<(wr.alloc (.cells #[.string nm,.int .i64 lo,.int .i64 hi] 58)).heap.size:=by simp
     have q0:=CN.out.at 0 rfl
     have q1:=CN.out.at 1 rfl
     have q2:=CN.out.at 2 rfl
     have hgwr:g<wr.heap.size:=(Array.getElem?_eq_some_iff.1 hgr.out).1
     go_wp2_with fail
     generalize hwz:wr.alloc (.cells #[.string nm,.int .i64 lo,.int .i64 hi] 58)=wz at *
     go_wp2_with fail
     have HNz:Hid (wz.cell? ⟨nb,0,none⟩=some (.string s)):=(World.cell?_of_block (hGz.out.block nb hnl (by intro e;injection e with e;exact hgn e.symm))).trans HN.out
     refine (yfh nm lo hi s nb _ HNz.out).mono ?_
     rintro e w2 ⟨rfl,hb2⟩
     have hG2:Hid (w.grownBy w2 (some g)):=World.grownBy.trans' hGz.out (jbb hb2)
     have hg2:Hid (w2.heap[g]? = some (.cells cu 58 (0,0))):=(hb2.block g ((Array.getElem?_eq_some_iff.1 hgz.out).1)).trans hgz.out
     have CN2:=Lib.hid (CN.out.next hb2)
     clear hwz hbz CN hGz hgz q0 l0 q1 l1 q2 l2
     cases hq:jap nm s
     ·have HQ:=Lib.hid hq
      clear hq
      have q0:=CN2.out.at 0 rfl
      have q1:=CN2.out.at 1 rfl
      have q2:=CN2.out.at 2 rfl
      have f0:w2.frozen? ⟨g,i*3,none⟩=false:=je3 hg2.out _
      have f1:w2.frozen? ⟨g,i*3+1,none⟩=false:=je3 hg2.out _
      have f2:w2.frozen? ⟨g,i*3+2,none⟩=false:=je3 hg2.out _
      have hwi:IntKind.i64.wrap ((i:Int)+1)=((i+1:Nat):Int):=by rw [IntKind.wrap_i64];omega
      have hwj:IntKind.i64.wrap ((j:Int)+1)=((j+1:Nat):Int):=by rw [IntKind.wrap_i64];omega
      have hcap:j<cap:=by omega
      have hiS:i*3+3≤cu.size:=by rw [hcz.out];omega
      obtain ⟨o0,i0⟩:∃ u,w2.cell? ⟨g,i*3,none⟩=some u:=⟨_,jbk hg2.out (List.getElem?_eq_getElem (by simp;omega))⟩
      obtain ⟨o1,i1⟩:∃ u,w2.cell? ⟨g,i*3+1,none⟩=some u:=⟨_,jbk hg2.out (List.getElem?_eq_getElem (by simp;omega))⟩
      obtain ⟨o2,i2⟩:∃ u,w2.cell? ⟨g,i*3+2,none⟩=some u:=⟨_,jbk hg2.out (List.getElem?_eq_getElem (by simp;omega))⟩
      go_wp2
      refine ⟨⟨i+1,j+1,_,by omega,by omega,by omega,by go_num,by go_num,?_,jm2 (jm2 (jm2 (hg2.out) _ _) _ _) _ _,?_,?_,?_,?_⟩,by simp [intOf];omega⟩
      ·show _=_
       rw [jcr HY.out];simp [HQ.out,hFi.out]
      ·show _=_
       simp only [Array.size_setIfInBounds];exact hcz.out
      ·intro q hq
       rw [jcr HY.out,List.flatMap_append]
       have hl1:(((l.take j).filter fun x=>!jap x.1 s).flatMap ja0).length=i*3:=by rw [jil jll,hFi.out]
       simp only [HQ.out,Bool.not_false,if_true,List.flatMap_cons,List.flatMap_nil,List.append_nil]
       rw [jg0 _ _ _ (by first | omega | (simp only [Array.size_setIfInBounds];omega)),jg0 _ _ _ (by first | omega | (simp only [Array.size_setIfInBounds];omega)),jg0 _ _ _ (by first | omega | (simp only [Array.size_setIfInBounds];omega))]
       by_cases hqi:q<i*3
       ·rw [List.getElem?_append_left (by omega),← hA.out q hqi]
        rw [if_neg (by omega),if_neg (by omega),if_neg (by omega)]
       ·rw [List.getElem?_append_right (by omega),hl1]
        rcases (by omega:q=i*3∨q=i*3+1∨q=i*3+2) with rfl | rfl | rfl
        ·rw [if_neg (by omega),if_neg (by omega),if_pos rfl,show i*3-i*3=0 from by omega];rfl
        ·rw [if_neg (by omega),if_pos rfl,show i*3+1-i*3=1 from by omega];rfl
        ·rw [if_pos rfl,show i*3+2-i*3=2 from by omega];rfl
      ·intro q hq1 hq2
       rw [jg0 _ _ _ (by first | omega | (simp only [Array.size_setIfInBounds];omega)),jg0 _ _ _ (by first | omega | (simp only [Array.size_setIfInBounds];omega)),jg0 _ _ _ (by first | omega | (simp only [Array.size_setIfInBounds];omega))]
       rw [if_neg (by omega),if_neg (by omega),if_neg (by omega)]
       exact hB.out q (by omega) hq2
      ·exact (World.grownBy.trans' ((World.grownBy.trans' ((World.grownBy.trans' (hG2.out) (jhj _ _ _ _))) (jhj _ _ _ _))) (jhj _ _ _ _))
     ·have HQ:=Lib.hid hq
      clear hq
      have hwj:IntKind.i64.wrap ((j:Int)+1)=((j+1:Nat):Int):=by rw [IntKind.wrap_i64];omega
      go_wp2
      refine ⟨⟨i,j+1,cu,by omega,by omega,by omega,rfl,by go_num,?_,hg2,hcz,?_,?_,hG2⟩,by simp [intOf];omega⟩
      ·show _=_
       rw [jcr HY.out];simp [HQ.out,hFi.out]
      ·intro q hq
       rw [jcr HY.out];simp only [HQ.out,Bool.not_true,Bool.false_eq_true,if_false,List.append_nil]
       exact hA.out q hq
      ·intro q hq1 hq2
       exact hB.out q (by omega) hq2
    ·obtain rfl:j=l.length:=by omega
     have hil:i<cap:=by omega
     obtain ⟨cur',hcl,hcs',hcq⟩:=jqt (P:=Tryz.prog) wr 35 58 (.agg #[.string ⟨#[]⟩,.int .i64 0,.int .i64 0]) yg2 yj3 (by decide) g (i*3) (l.length-i) (cap-i) cu (by omega) hgr.out (by rw [hcz.out];show i*3+(l.length-i)*3≤cap*3;omega)
     have HT:=Lib.hid (List.take_of_length_le (Nat.le_refl l.length))
     have HCS:Hid (cur'.size=cap*3):=by show _=_;rw [hcs'];exact hcz.out
     have HCQ:=Lib.hid hcq
     have hci:¬ (cap=i):=by omega
     clear hcs' hcq
     go_wp2_with (at_builtin;refine jna _ rfl _ 35 rfl _ rfl (hcl _) ?_)
     go_ret
     have e0:l.filter (fun x=>!jap x.1 s)=(l.take l.length).filter fun x=>!jap x.1 s:=by rw [HT.out]
     rw [e0]
     refine ⟨_,rfl,?_,World.grownBy.trans' hG.out (jby _ _ _),fun k hk=>.inl hk⟩
     rw [hFi.out]
     refine jnr hg0 (setRow_heap wr g cu _ _ _ hgr.out) (by omega) hcm HCS.out ?_
     apply List.ext_getElem?
     intro q
     by_cases hq:q<i*3
     ·rw [List.getElem?_take_of_lt hq,HCQ.out q hq,hA.out q hq]
     ·rw [List.getElem?_eq_none (by rw [List.length_take];omega),List.getElem?_eq_none (by rw [jil jll,hFi.out];omega)]
theorem yin:Tryz.prog.underlying 36=some (.slice 56):=by kernel_rfl
theorem ym7 (w:World):(zeroValue 56).run Tryz.prog w = .ok (.agg #[.string ⟨#[]⟩,.int .i64 0,.bool false,.slice none 0 0,.slice none 0 0]) w:=by kernel_rfl
theorem yfi (nm:ByteArray) (pol:Int) (comp:Bool) (ia:Option Addr) (il ic:Nat) (ra:Option Addr) (rl rc:Nat) (s:ByteArray) (nb:Nat) (w:World) (h:w.cell? ⟨nb,0,none⟩=some (.string s)) :
  Calls Tryz.prog 108 #[.agg #[.string nm,.int .i64 pol,.bool comp,.slice ia il ic,.slice ra rl rc],.pointer (some ⟨nb,0,none⟩)] w fun e w'=>e = .returned (.bool (jap nm s))∧Below w.heap.size w w':=by
 have h':(w.alloc (.cells #[.string nm,.int .i64 pol,.bool comp,.slice ia il ic,.slice ra rl rc] 56)).cell? ⟨nb,0,none⟩=some (.string s):=Lib.cell?_alloc_some _ h
 go_enter Tryz.func108,Tryz.ntmps108
 go_wp2
 go_ret
 exact ⟨rfl,jac _ _⟩
theorem yeh {w:World} {A:Option Addr} {c:Nat} {l:List RawT} (h:Raw w 5 (.slice A l.length c) l.length (l.flatMap jbc)) {k:Nat} (hk:k<l.length) :
  ∃ b o,∃ (nm:ByteArray) (pol:Int) (comp:Bool) (ia:Option Addr) (il ic:Nat) (ra:Option Addr) (rl rc:Nat),A=some ⟨b,o,none⟩∧Hid (l[k]? = some (nm,pol,comp,(ia,il,ic),(ra,rl,rc)))∧b<w.heap.size∧w.cell? ⟨b,o+k*5,none⟩=some (.string nm)∧w.cell? ⟨b,o+k*5+1,none⟩=some (.int .i64 pol)∧w.cell? ⟨b,o+k*5+2,none⟩=some (.bool comp)∧w.cell? ⟨b,o+k*5+3,none⟩=some (.slice ia il ic)∧w.cell? ⟨b,o+k*5+4,none⟩=some (.slice ra rl rc):=by
 obtain ⟨A',c',e,_,_,_,_,h6,_⟩:=h
 injection e with e1 e2 e3
 subst e1
 obtain ⟨b,o,rfl,h7⟩:=h6 (by omega)
 have hx:=List.getElem?_eq_getElem hk
 generalize l[k]=x at hx
 obtain ⟨nm,pol,comp,⟨ia,il,ic⟩,⟨ra,rl,rc⟩⟩:=x
 have hg:=fun j (hj:j<5) v (hv:(jbc (nm,pol,comp,(ia,il,ic),(ra,rl,rc)))[j]? = some v)=>h7 (k*5+j) v ((jog jlm hx hj).trans hv)
 have g0:=hg 0 (by decide) _ rfl
 refine ⟨b,o,nm,pol,comp,ia,il,ic,ra,rl,rc,rfl,hx,World.block_lt_of_cell? w _ g0,(by have:=hg 0 (by decide) _ rfl;rw [← this];congr 2),(by have:=hg 1 (by decide) _ rfl;rw [← this];congr 2),(by have:=hg 2 (by decide) _ rfl;rw [← this];congr 2),(by have:=hg 3 (by decide) _ rfl;rw [← this];congr 2),(by have:=hg 4 (by decide) _ rfl;rw [← this];congr 2)⟩
theorem ykn (l:List RawT) (v:Value) (s:ByteArray) (nb:Nat) (w:World) (h:Raw w 5 v l.length (l.flatMap jbc)) (hv:∀ k,v.ownBlock=some k→k<w.heap.size) (hn:w.cell? ⟨nb,0,none⟩=some (.string s)) :
  Calls Tryz.prog 86 #[v,.func (.func 108) #[] #[.pointer (some ⟨nb,0,none⟩)]] w fun e w'=>((e = .returned (.int .i64 (-1))∧Hid (l.filter (fun x=>!jap x.1 s)=l))∨∃ (k:Nat) (x:RawT),e = .returned (.int .i64 k)∧k<l.length∧Hid (l[k]? = some x)∧Hid (jap x.1 s=true)∧Hid ((l.take k).filter (fun x=>!jap x.1 s)=l.take k))∧Below w.heap.size w w':=by
 have H:=Lib.hid h
 have HN:=Lib.hid hn
 have HV:=Lib.hid hv
 have hnl:nb<w.heap.size:=World.block_lt_of_cell? w _ hn
 obtain ⟨A,cp,rfl,hc1,hc2,-⟩:=h
 unfold maxLen at hc2
 clear hn hv
 have eg:∀ args w,(callFunc 108 args).run Tryz.prog w = .ok (.enter 108 args) w:=enters_of Tryz.func108 (by kernel_rfl) rfl
 go_enter Tryz.func86,Tryz.ntmps86
 go_wp2
 go_loopw [8] (fun i wr=>∃ k:Nat,k≤l.length∧i = .int .i64 k∧Hid ((l.take k).filter (fun x=>!jap x.1 s)=l.take k)∧Below w.heap.size w wr) (fun i _=>l.length-(intOf i).toNat)
 case atStart=>exact ⟨0,Nat.zero_le _,rfl,rfl,Below.refl _ _⟩
 case round =>
  obtain ⟨k,hk,rfl,hf,hb⟩:=hrel
  by_cases hlt:k<l.length
  ·obtain ⟨b,o,nm,pol,comp,ia,il,ic,ra,rl,rc,rfl,hx,hbl,c0,c1,c2,c3,c4⟩:=yeh (H.out.keep (w':=wr) (fun _ p hp=>hb.cell (HV.out _ hp))) hlt
   have HN1:Hid (wr.cell? ⟨nb,0,none⟩=some (.string s)):=(hb.cell (p:=⟨nb,0,none⟩) hnl).trans HN.out
   go_wp2_with fail
   refine (yfi nm pol comp ia il ic ra rl rc s nb _ HN1.out).mono ?_
   rintro e w1 ⟨rfl,hb1⟩
   have hb01:=bx hb hb1
   cases hq:jap nm s
   ·have HQ:Hid ((l.take (k+1)).filter (fun x=>!jap x.1 s)=l.take (k+1)):=by
     show _=_
     rw [jcr hx.out,hf.out,jai hx.out];simp [hq]
    clear hq
    go_wp2
    exact ⟨⟨k+1,by omega,by go_num,HQ,hb01⟩,by simp [intOf];omega⟩
   ·have HQ:=Lib.hid hq
    clear hq
    go_wp2
    go_ret
    exact ⟨.inr ⟨k,_,rfl,hlt,hx,HQ,hf⟩,hb01⟩
  ·have e:l.take k=l:=List.take_of_length_le (by omega)
   have hf':=hf.out
   rw [e] at hf'
   have HQ:=Lib.hid hf'
   clear hf'
   go_wp2
   go_ret
   exact ⟨.inl ⟨rfl,HQ⟩,hb⟩
theorem yg1 (l:List RawT) (v:Value) (base:Nat) (s:ByteArray) (nb:Nat) (w:World) (h:w.ownsRow base 56 5 v l.length (l.flatMap jbc)) (hn:w.cell? ⟨nb,0,none⟩=some (.string s)) (hnb:v.ownBlock≠some nb) :
  Calls Tryz.prog 106 #[v,.func (.func 108) #[] #[.pointer (some ⟨nb,0,none⟩)]] w fun e w'=>∃ v',e = .returned v'∧w'.ownsRow base 56 5 v' (l.filter fun x=>!jap x.1 s).length ((l.filter fun x=>!jap x.1 s).flatMap jbc)∧w.grownBy w' v.ownBlock∧jed w v v':=by
 have HN:=Lib.hid hn
 have hnl:nb<w.heap.size:=World.block_lt_of_cell? w _ hn
 have hraw:=jkl h (by intro u hu;obtain ⟨x,_,hx⟩:=List.mem_flatMap.1 hu;exact yd7 x u hx)
 have HR:=Lib.hid hraw
 have HL:=Lib.hid (fun k hk=>(h.lt k hk).2)
 have HO:=Lib.hid h
 obtain ⟨A,cap,rfl,hc1,hc2,-⟩:=jah h
 unfold maxLen at hc2
 have eg:∀ args w,(callFunc 108 args).run Tryz.prog w = .ok (.enter 108 args) w:=enters_of Tryz.func108 (by kernel_rfl) rfl
 clear h hn hraw
 go_enter Tryz.func106,Tryz.ntmps106
 go_wp2_with fail
 refine (ykn l _ s nb _ HR.out HL.out HN.out).mono ?_
 rintro e w1 ⟨⟨rfl,hF⟩ | ⟨k,x,rfl,hk,hx,hs,hF⟩,hb1⟩
 ·go_wp2
  go_ret
  rw [hF.out]
  exact ⟨_,rfl,ja1 HO.out (fun g hg=>hb1.block g (HL.out g hg)),jbb hb1,jed.refl _ _⟩
 ·rcases HO.out.2 with ⟨e,h0⟩ | ⟨g,cap',cur,e,hg0,hg,hnc,hcm,hcs,hcx⟩
  ·omega
  ·injection e with e1 e2 e3
   subst e1 e3
   have hgl:=(Array.getElem?_eq_some_iff.1 hg).1
   have hgn:g≠nb:=fun e=>hnb (by rw [← e];rfl)
   have hfl:=jil jlm l
   have hcl:cur.toList.length=cap*5:=by simpa using hcs
   have hk1:((k:Int) == -1)=false:=by rw [beq_eq_false_iff_ne];omega
   have hwk:IntKind.i64.wrap ((k:Int)+1)=((k+1:Nat):Int):=by rw [IntKind.wrap_i64];omega
   have hg1:Hid (w1.heap[g]? = some (.cells cur 56 (0,0))):=(hb1.block g hgl).trans hg
   have hA0:Hid (∀ q,q<k*5→cur.toList[q]? = (((l.take (k+1)).filter fun x=>!jap x.1 s).flatMap jbc)[q]?):=by
    intro q hq
    rw [jcr hx.out,hF.out]
    simp only [hs.out,Bool.not_true,Bool.false_eq_true,if_false,List.append_nil]
    rw [jp6 jlm,List.getElem?_take_of_lt hq,← hcx,List.getElem?_take_of_lt (by omega)]
   have hB0:Hid (∀ q,(k+1)*5≤q→q<l.length*5→cur.toList[q]? = (l.flatMap jbc)[q]?):=by
    intro q _ hq
    rw [← hcx,List.getElem?_take_of_lt hq]
   have hF0:Hid (((l.take (k+1)).filter fun x=>!jap x.1 s).length=k):=by
    show _=_
    rw [jcr hx.out,hF.out]
    simp [hs.out];omega
   have HS:Hid (cur.size=cap*5):=hcs
   have HG1:Hid (w.grownBy w1 (some g)):=jbb hb1
   have hpx:Hid ((!jap x.1 s)=false):=by show _=_;rw [hs.out];rfl
   clear hg hcx hcl hcs hfl HR HO hb1
   go_wp2
   go_loopw [5,6] (fun a b wr=>∃ (i j:Nat) (cu:Array Value),i<j∧k+1≤j∧j≤l.length∧a = .int .i64 i∧b = .int .i64 j∧Hid (((l.take j).filter fun x=>!jap x.1 s).length=i)∧Hid (wr.heap[g]? = some (.cells cu 56 (0,0)))∧Hid (cu.size=cap*5)∧Hid (∀ q,q<i*5→cu.toList[q]? = (((l.take j).filter fun x=>!jap x.1 s).flatMap jbc)[q]?)∧Hid (∀ q,j*5≤q→q<l.length*5→cu.toList[q]? = (l.flatMap jbc)[q]?)∧Hid (w.grownBy wr (some g))) (fun _ b _=>l.length-(intOf b).toNat)
   case atStart=>exact ⟨k,k+1,cur,by omega,by omega,by omega,rfl,by go_num,hF0,hg1,HS,hA0,hB0,HG1⟩
   case round =>
    clear hA0 hB0 hF0 hg1 HS HG1
    obtain ⟨i,j,cu,hij,hkj,hjl,rfl,rfl,hFi,hgr,hcz,hA,hB,hG⟩:=hrel
    by_cases hlt:j<l.length
    ·have hy:=List.getElem?_eq_getElem hlt
     generalize l[j]=y at hy
     have HY:=Lib.hid hy
     obtain ⟨nm,pol,comp,⟨ia,il,ic⟩,⟨ra,rl,rc⟩⟩:=y
     have hcc:∀ q (hq:q<5) u,(jbc (nm,pol,comp,(ia,il,ic),(ra,rl,rc)))[q]? = some u→wr.cell? ⟨g,j*5+q,none⟩=some u:=fun q hq u hu=>jbk hgr.out ((hB.out (j*5+q) (by omega) (by omega)).trans ((jog jlm hy hq).trans hu))
     have l0:wr.cell? ⟨g,j*5,none⟩=some (.string nm):=hcc 0 (by decide) _ rfl
     have l1:wr.cell? ⟨g,j*5+1,none⟩=some (.int .i64 pol):=hcc 1 (by decide) _ rfl
     have l2:wr.cell? ⟨g,j*5+2,none⟩=some (.bool comp):=hcc 2 (by decide) _ rfl
     have l3:wr.cell? ⟨g,j*5+3,none⟩=some (.slice ia il ic):=hcc 3 (by decide) _ rfl
     have l4:wr.cell? ⟨g,j*5+4,none⟩=some (.slice ra rl rc):=hcc 4 (by decide) _ rfl
     clear hcc hy
     have hbz:=jac wr (.cells #[.string nm,.int .i64 pol,.bool comp,.slice ia il ic,.slice ra rl rc] 56)
     have CN:=Lib.hid (Cs.new wr ([.string nm,.int .i64 pol,.bool comp,.slice ia il ic,.slice ra rl rc]) 56)
     change Hid (Cs (wr.alloc (.cells #[.string nm,.int .i64 pol,.bool comp,.slice ia il ic,.slice ra rl rc] 56)) _ _) at CN
     have hGz:Hid (w.grownBy (wr.alloc (.cells #[.string nm,.int .i64 pol,.bool comp,.slice ia il ic,.slice ra rl rc] 56)) (some g)):=World.grownBy.trans' hG.out (jbb hbz)
     have hgz:Hid ((wr.alloc (.cells #[.string nm,.int .i64 pol,.bool comp,.slice ia il ic,.slice ra rl rc] 56)).heap[g]? = some (.cells cu 56 (0,0))):=(hbz.block g ((Array.getElem?_eq_some_iff.1 hgr.out).1)).trans hgr.out
     have hzz:wr.heap.size<(wr.alloc (.cells #[.string nm,.int .i64 pol,.bool comp,.slice ia il ic,.slice ra rl rc] 56)).heap.size:=by simp
     have q0:=CN.out.at 0 rfl
     have q1:=CN.out.at 1 rfl
     have q2:=CN.out.at 2 rfl
     have q3:=CN.out.at 3 rfl
     have q4:=CN.out.at 4 rfl
     have hgwr:g<wr.heap.size:=(Array.getElem?_eq_some_iff.1 hgr.out).1
     go_wp2_with fail
     generalize hwz:wr.alloc (.cells #[.string nm,.int .i64 pol,.bool comp,.slice ia il ic,.slice ra rl rc] 56)=wz at *
     go_wp2_with fail
     have HNz:Hid (wz.cell? ⟨nb,0,none⟩=some (.string s)):=(World.cell?_of_block (hGz.out.block nb hnl (by intro e;injection e with e;exact hgn e.symm))).trans HN.out
     refine (yfi nm pol comp ia il ic ra rl rc s nb _ HNz.out).mono ?_
     rintro e w2 ⟨rfl,hb2⟩
     have hG2:Hid (w.grownBy w2 (some g)):=World.grownBy.trans' hGz.out (jbb hb2)
     have hg2:Hid (w2.heap[g]? = some (.cells cu 56 (0,0))):=(hb2.block g ((Array.getElem?_eq_some_iff.1 hgz.out).1)).trans hgz.out
     have CN2:=Lib.hid (CN.out.next hb2)
     clear hwz hbz CN hGz hgz q0 l0 q1 l1 q2 l2 q3 l3 q4 l4
     cases hq:jap nm s
     ·have HQ:=Lib.hid hq
      clear hq
      have q0:=CN2.out.at 0 rfl
      have q1:=CN2.out.at 1 rfl
      have q2:=CN2.out.at 2 rfl
      have q3:=CN2.out.at 3 rfl
      have q4:=CN2.out.at 4 rfl
      have f0:w2.frozen? ⟨g,i*5,none⟩=false:=je3 hg2.out _
      have f1:w2.frozen? ⟨g,i*5+1,none⟩=false:=je3 hg2.out _
      have f2:w2.frozen? ⟨g,i*5+2,none⟩=false:=je3 hg2.out _
      have f3:w2.frozen? ⟨g,i*5+3,none⟩=false:=je3 hg2.out _
      have f4:w2.frozen? ⟨g,i*5+4,none⟩=false:=je3 hg2.out _
      have hwi:IntKind.i64.wrap ((i:Int)+1)=((i+1:Nat):Int):=by rw [IntKind.wrap_i64];omega
      have hwj:IntKind.i64.wrap ((j:Int)+1)=((j+1:Nat):Int):=by rw [IntKind.wrap_i64];omega
      have hcap:j<cap:=by omega
      have hiS:i*5+5≤cu.size:=by rw [hcz.out];omega
      obtain ⟨o0,i0⟩:∃ u,w2.cell? ⟨g,i*5,none⟩=some u:=⟨_,jbk hg2.out (List.getElem?_eq_getElem (by simp;omega))⟩
      obtain ⟨o1,i1⟩:∃ u,w2.cell? ⟨g,i*5+1,none⟩=some u:=⟨_,jbk hg2.out (List.getElem?_eq_getElem (by simp;omega))⟩
      obtain ⟨o2,i2⟩:∃ u,w2.cell? ⟨g,i*5+2,none⟩=some u:=⟨_,jbk hg2.out (List.getElem?_eq_getElem (by simp;omega))⟩
      obtain ⟨o3,i3⟩:∃ u,w2.cell? ⟨g,i*5+3,none⟩=some u:=⟨_,jbk hg2.out (List.getElem?_eq_getElem (by simp;omega))⟩
      obtain ⟨o4,i4⟩:∃ u,w2.cell? ⟨g,i*5+4,none⟩=some u:=⟨_,jbk hg2.out (List.getElem?_eq_getElem (by simp;omega))⟩
      go_wp2
      refine ⟨⟨i+1,j+1,_,by omega,by omega,by omega,by go_num,by go_num,?_,jm2 (jm2 (jm2 (jm2 (jm2 (hg2.out) _ _) _ _) _ _) _ _) _ _,?_,?_,?_,?_⟩,by simp [intOf];omega⟩
      ·show _=_
       rw [jcr HY.out];simp [HQ.out,hFi.out]
      ·show _=_
       simp only [Array.size_setIfInBounds];exact hcz.out
      ·intro q hq
       rw [jcr HY.out,List.flatMap_append]
       have hl1:(((l.take j).filter fun x=>!jap x.1 s).flatMap jbc).length=i*5:=by rw [jil jlm,hFi.out]
       simp only [HQ.out,Bool.not_false,if_true,List.flatMap_cons,List.flatMap_nil,List.append_nil]
       rw [jg0 _ _ _ (by first | omega | (simp only [Array.size_setIfInBounds];omega)),jg0 _ _ _ (by first | omega | (simp only [Array.size_setIfInBounds];omega)),jg0 _ _ _ (by first | omega | (simp only [Array.size_setIfInBounds];omega)),jg0 _ _ _ (by first | omega | (simp only [Array.size_setIfInBounds];omega)),jg0 _ _ _ (by first | omega | (simp only [Array.size_setIfInBounds];omega))]
       by_cases hqi:q<i*5
       ·rw [List.getElem?_append_left (by omega),← hA.out q hqi]
        rw [if_neg (by omega),if_neg (by omega),if_neg (by omega),if_neg (by omega),if_neg (by omega)]
       ·rw [List.getElem?_append_right (by omega),hl1]
        rcases (by omega:q=i*5∨q=i*5+1∨q=i*5+2∨q=i*5+3∨q=i*5+4) with rfl | rfl | rfl | rfl | rfl
        ·rw [if_neg (by omega),if_neg (by omega),if_neg (by omega),if_neg (by omega),if_pos rfl,show i*5-i*5=0 from by omega];rfl
        ·rw [if_neg (by omega),if_neg (by omega),if_neg (by omega),if_pos rfl,show i*5+1-i*5=1 from by omega];rfl
        ·rw [if_neg (by omega),if_neg (by omega),if_pos rfl,show i*5+2-i*5=2 from by omega];rfl
        ·rw [if_neg (by omega),if_pos rfl,show i*5+3-i*5=3 from by omega];rfl
        ·rw [if_pos rfl,show i*5+4-i*5=4 from by omega];rfl
      ·intro q hq1 hq2
       rw [jg0 _ _ _ (by first | omega | (simp only [Array.size_setIfInBounds];omega)),jg0 _ _ _ (by first | omega | (simp only [Array.size_setIfInBounds];omega)),jg0 _ _ _ (by first | omega | (simp only [Array.size_setIfInBounds];omega)),jg0 _ _ _ (by first | omega | (simp only [Array.size_setIfInBounds];omega)),jg0 _ _ _ (by first | omega | (simp only [Array.size_setIfInBounds];omega))]
       rw [if_neg (by omega),if_neg (by omega),if_neg (by omega),if_neg (by omega),if_neg (by omega)]
       exact hB.out q (by omega) hq2
      ·exact (World.grownBy.trans' ((World.grownBy.trans' ((World.grownBy.trans' ((World.grownBy.trans' ((World.grownBy.trans' (hG2.out) (jhj _ _ _ _))) (jhj _ _ _ _))) (jhj _ _ _ _))) (jhj _ _ _ _))) (jhj _ _ _ _))
     ·have HQ:=Lib.hid hq
      clear hq
      have hwj:IntKind.i64.wrap ((j:Int)+1)=((j+1:Nat):Int):=by rw [IntKind.wrap_i64];omega
      go_wp2
      refine ⟨⟨i,j+1,cu,by omega,by omega,by omega,rfl,by go_num,?_,hg2,hcz,?_,?_,hG2⟩,by simp [intOf];omega⟩
      ·show _=_
       rw [jcr HY.out];simp [HQ.out,hFi.out]
      ·intro q hq
       rw [jcr HY.out];simp only [HQ.out,Bool.not_true,Bool.false_eq_true,if_false,List.append_nil]
       exact hA.out q hq
      ·intro q hq1 hq2
       exact hB.out q (by omega) hq2
    ·obtain rfl:j=l.length:=by omega
     have hil:i<cap:=by omega
     obtain ⟨cur',hcl,hcs',hcq⟩:=jqt (P:=Tryz.prog) wr 36 56 (.agg #[.string ⟨#[]⟩,.int .i64 0,.bool false,.slice none 0 0,.slice none 0 0]) yin ym7 (by decide) g (i*5) (l.length-i) (cap-i) cu (by omega) hgr.out (by rw [hcz.out];show i*5+(l.length-i)*5≤cap*5;omega)
     have HT:=Lib.hid (List.take_of_length_le (Nat.le_refl l.length))
     have HCS:Hid (cur'.size=cap*5):=by show _=_;rw [hcs'];exact hcz.out
     have HCQ:=Lib.hid hcq
     have hci:¬ (cap=i):=by omega
     clear hcs' hcq
     go_wp2_with (at_builtin;refine jna _ rfl _ 36 rfl _ rfl (hcl _) ?_)
     go_ret
     have e0:l.filter (fun x=>!jap x.1 s)=(l.take l.length).filter fun x=>!jap x.1 s:=by rw [HT.out]
     rw [e0]
     refine ⟨_,rfl,?_,World.grownBy.trans' hG.out (jby _ _ _),fun k hk=>.inl hk⟩
     rw [hFi.out]
     refine jnr hg0 (setRow_heap wr g cu _ _ _ hgr.out) (by omega) hcm HCS.out ?_
     apply List.ext_getElem?
     intro q
     by_cases hq:q<i*5
     ·rw [List.getElem?_take_of_lt hq,HCQ.out q hq,hA.out q hq]
     ·rw [List.getElem?_eq_none (by rw [List.length_take];omega),List.getElem?_eq_none (by rw [jil jlm,hFi.out];omega)]
open Go.RowKit Go.Shelf
theorem yn1 (a b:List UInt8):decide (Lib.compareBytes a b<0)=Op.bytesLess a b:=by
 induction a generalizing b with
 | nil=>cases b <;> simp [Lib.compareBytes,Op.bytesLess]
 | cons x a ih =>
  cases b with
  | nil=>simp [Lib.compareBytes,Op.bytesLess]
  | cons y b =>
   by_cases h1:x<y
   ·have e:Lib.compareBytes (x :: a) (y :: b) = -1:=by simp [Lib.compareBytes,h1]
    rw [e];simp [Op.bytesLess,h1]
   ·by_cases h2:y<x
    ·have e:Lib.compareBytes (x :: a) (y :: b)=1:=by simp [Lib.compareBytes,h1,h2]
     have hne:¬ x=y:=fun e=>by rw [e] at h2;exact absurd h2 (UInt8.lt_irrefl _)
     rw [e];simp [Op.bytesLess,h1,hne]
    ·have he:x=y:=by
      rcases Nat.lt_trichotomy x.toNat y.toNat with h | h | h
      ·exact absurd h h1
      ·exact UInt8.toNat_inj.1 h
      ·exact absurd h h2
     subst he
     have e:Lib.compareBytes (x :: a) (x :: b)=Lib.compareBytes a b:=by simp [Lib.compareBytes]
     rw [e,ih];simp [Op.bytesLess]
theorem yqf (a b:ByteArray):(Lib.compareBytes a.data.toList b.data.toList<0)↔ltS a b=true:=by
 unfold ltS
 rw [ByteArray.toList_eq,ByteArray.toList_eq,← yn1];simp
theorem ybz (nm:ByteArray) (lo hi:Int) (s:ByteArray) (w:World) :
  Calls Tryz.prog 102 #[.agg #[.string nm,.int .i64 lo,.int .i64 hi],.string s] w fun e w'=>(∃ r:Int,e = .returned (.int .i64 r)∧Hid (r<0↔ltS nm s=true))∧Below w.heap.size w w':=by
 have hcon:=fun W'=>Any.strings_Compare Tryz.compare nm s W'
 change ∀ W',Calls Tryz.prog 99 _ _ _ at hcon
 have HL:=Lib.hid (yqf nm s)
 generalize Lib.compareBytes nm.data.toList s.data.toList=r at hcon HL ⊢
 go_enter Tryz.func102,Tryz.ntmps102
 go_wp2_with (go_at_call 99;refine (hcon _).mono ?_;rintro e w' ⟨rfl,rfl⟩)
 go_ret
 exact ⟨⟨r,rfl,HL⟩,jac _ _⟩
theorem yia (l:List DomD) (v:Value) (s:ByteArray) (w:World) (h:Raw w 3 v l.length (l.flatMap ja0)) (hv:∀ k,v.ownBlock=some k→k<w.heap.size) (hr:jdc (fun x:DomD=>x.1) l=true) (hbig:l.length<4611686018427387904) :
  Calls Tryz.prog 101 #[v,.string s,.func (.func 102) #[] #[]] w fun e w'=>(∃ f:Bool,e = .returned (.tuple #[.int .i64 (posF (fun x:DomD=>x.1) l s:Nat),.bool f]))∧Below w.heap.size w w':=by
 have H:=Lib.hid h
 have HV:=Lib.hid hv
 have HR:=Lib.hid hr
 obtain ⟨A,cp,rfl,hc1,hc2,-⟩:=h
 unfold maxLen at hc2
 clear hv hr
 have hp:=jpr (f:=fun x:DomD=>x.1) l s
 have HP:Hid (∃ p,p=posF (fun x:DomD=>x.1) l s):=⟨_,rfl⟩
 have HPL:Hid (∀ k x,l[k]? = some x→(k<posF (fun x:DomD=>x.1) l s↔ltS x.1 s=true)):=by
  intro k x hx
  constructor
  ·intro hk;exact yb7 (f:=fun x:DomD=>x.1) hk hx
  ·intro hlt
   rcases Nat.lt_or_ge k (posF (fun x:DomD=>x.1) l s) with h | h
   ·exact h
   ·have:=jxi (f:=fun x:DomD=>x.1) HR.out h hx
    rw [this] at hlt;cases hlt
 clear HP
 generalize posF (fun x:DomD=>x.1) l s=p at *
 have eg:∀ args w,(callFunc 102 args).run Tryz.prog w = .ok (.enter 102 args) w:=enters_of Tryz.func102 (by kernel_rfl) rfl
 go_enter Tryz.func101,Tryz.ntmps101
 go_wp2
 go_loopw [9,10] (fun a b wr=>∃ li ri:Nat,a = .int .i64 li∧b = .int .i64 ri∧li≤p∧p≤ri∧ri≤l.length∧Below w.heap.size w wr) (fun a b _=>(intOf b).toNat-(intOf a).toNat)
 case atStart=>exact ⟨0,l.length,rfl,rfl,Nat.zero_le _,hp,Nat.le_refl _,Below.refl _ _⟩
 case round =>
  obtain ⟨li,ri,rfl,rfl,hlo,hhi,hil,hb⟩:=hrel
  by_cases hlt:li<ri
  ·obtain ⟨b,o,nm,lo,hi,rfl,hx,hbl,c0,c1,c2⟩:=yeg (H.out.keep (w':=wr) (fun _ p hp=>hb.cell (HV.out _ hp))) (show (li+ri) / 2<l.length by omega)
   go_wp2_with fail
   refine (ybz nm lo hi s _).mono ?_
   rintro e w1 ⟨⟨r,rfl,hr⟩,hb1⟩
   have hb01:=bx hb hb1
   have HX:=Lib.hid (HPL.out _ _ hx.out)
   by_cases hq:r<0
   ·have hmp:(li+ri) / 2<p:=HX.out.2 (hr.out.1 hq)
    go_wp2
    refine ⟨⟨(li+ri) / 2+1,ri,by go_num,rfl,by omega,hhi,hil,hb01⟩,by simp [intOf];omega⟩
   ·have hmp:p≤(li+ri) / 2:=by
     rcases Nat.lt_or_ge ((li+ri) / 2) p with h | h
     ·exact absurd (hr.out.2 (HX.out.1 h)) hq
     ·exact h
    go_wp2
    refine ⟨⟨li,(li+ri) / 2,rfl,by go_num,hlo,hmp,by omega,hb01⟩,by simp [intOf];omega⟩
  ·obtain rfl:li=p:=by omega
   by_cases hn:li<l.length
   ·obtain ⟨b,o,nm,lo,hi,rfl,hx,hbl,c0,c1,c2⟩:=yeg (H.out.keep (w':=wr) (fun _ p hp=>hb.cell (HV.out _ hp))) hn
    go_wp2_with fail
    refine (ybz nm lo hi s _).mono ?_
    rintro e w1 ⟨⟨r,rfl,hr⟩,hb1⟩
    have hb01:=bx hb hb1
    go_wp2
    go_ret2
    exact ⟨⟨_,rfl⟩,hb01⟩
   ·go_wp2
    go_ret2
    exact ⟨⟨_,rfl⟩,hb⟩
theorem yb0 (nm:ByteArray) (pol:Int) (comp:Bool) (ia:Option Addr) (il ic:Nat) (ra:Option Addr) (rl rc:Nat) (s:ByteArray) (w:World) :
  Calls Tryz.prog 98 #[.agg #[.string nm,.int .i64 pol,.bool comp,.slice ia il ic,.slice ra rl rc],.string s] w fun e w'=>(∃ r:Int,e = .returned (.int .i64 r)∧Hid (r<0↔ltS nm s=true))∧Below w.heap.size w w':=by
 have hcon:=fun W'=>Any.strings_Compare Tryz.compare nm s W'
 change ∀ W',Calls Tryz.prog 99 _ _ _ at hcon
 have HL:=Lib.hid (yqf nm s)
 generalize Lib.compareBytes nm.data.toList s.data.toList=r at hcon HL ⊢
 go_enter Tryz.func98,Tryz.ntmps98
 go_wp2_with (go_at_call 99;refine (hcon _).mono ?_;rintro e w' ⟨rfl,rfl⟩)
 go_ret
 exact ⟨⟨r,rfl,HL⟩,jac _ _⟩
theorem yib (l:List RawT) (v:Value) (s:ByteArray) (w:World) (h:Raw w 5 v l.length (l.flatMap jbc)) (hv:∀ k,v.ownBlock=some k→k<w.heap.size) (hr:jdc (fun x:RawT=>x.1) l=true) (hbig:l.length<4611686018427387904) :
  Calls Tryz.prog 97 #[v,.string s,.func (.func 98) #[] #[]] w fun e w'=>(∃ f:Bool,e = .returned (.tuple #[.int .i64 (posF (fun x:RawT=>x.1) l s:Nat),.bool f]))∧Below w.heap.size w w':=by
 have H:=Lib.hid h
 have HV:=Lib.hid hv
 have HR:=Lib.hid hr
 obtain ⟨A,cp,rfl,hc1,hc2,-⟩:=h
 unfold maxLen at hc2
 clear hv hr
 have hp:=jpr (f:=fun x:RawT=>x.1) l s
 have HP:Hid (∃ p,p=posF (fun x:RawT=>x.1) l s):=⟨_,rfl⟩
 have HPL:Hid (∀ k x,l[k]? = some x→(k<posF (fun x:RawT=>x.1) l s↔ltS x.1 s=true)):=by
  intro k x hx
  constructor
  ·intro hk;exact yb7 (f:=fun x:RawT=>x.1) hk hx
  ·intro hlt
   rcases Nat.lt_or_ge k (posF (fun x:RawT=>x.1) l s) with h | h
   ·exact h
   ·have:=jxi (f:=fun x:RawT=>x.1) HR.out h hx
    rw [this] at hlt;cases hlt
 clear HP
 generalize posF (fun x:RawT=>x.1) l s=p at *
 have eg:∀ args w,(callFunc 98 args).run Tryz.prog w = .ok (.enter 98 args) w:=enters_of Tryz.func98 (by kernel_rfl) rfl
 go_enter Tryz.func97,Tryz.ntmps97
 go_wp2
 go_loopw [9,10] (fun a b wr=>∃ li ri:Nat,a = .int .i64 li∧b = .int .i64 ri∧li≤p∧p≤ri∧ri≤l.length∧Below w.heap.size w wr) (fun a b _=>(intOf b).toNat-(intOf a).toNat)
 case atStart=>exact ⟨0,l.length,rfl,rfl,Nat.zero_le _,hp,Nat.le_refl _,Below.refl _ _⟩
 case round =>
  obtain ⟨li,ri,rfl,rfl,hlo,hhi,hil,hb⟩:=hrel
  by_cases hlt:li<ri
  ·obtain ⟨b,o,nm,pol,comp,ia,il,ic,ra,rl,rc,rfl,hx,hbl,c0,c1,c2,c3,c4⟩:=yeh (H.out.keep (w':=wr) (fun _ p hp=>hb.cell (HV.out _ hp))) (show (li+ri) / 2<l.length by omega)
   go_wp2_with fail
   refine (yb0 nm pol comp ia il ic ra rl rc s _).mono ?_
   rintro e w1 ⟨⟨r,rfl,hr⟩,hb1⟩
   have hb01:=bx hb hb1
   have HX:=Lib.hid (HPL.out _ _ hx.out)
   by_cases hq:r<0
   ·have hmp:(li+ri) / 2<p:=HX.out.2 (hr.out.1 hq)
    go_wp2
    refine ⟨⟨(li+ri) / 2+1,ri,by go_num,rfl,by omega,hhi,hil,hb01⟩,by simp [intOf];omega⟩
   ·have hmp:p≤(li+ri) / 2:=by
     rcases Nat.lt_or_ge ((li+ri) / 2) p with h | h
     ·exact absurd (hr.out.2 (HX.out.1 h)) hq
     ·exact h
    go_wp2
    refine ⟨⟨li,(li+ri) / 2,rfl,by go_num,hlo,hmp,by omega,hb01⟩,by simp [intOf];omega⟩
  ·obtain rfl:li=p:=by omega
   by_cases hn:li<l.length
   ·obtain ⟨b,o,nm,pol,comp,ia,il,ic,ra,rl,rc,rfl,hx,hbl,c0,c1,c2,c3,c4⟩:=yeh (H.out.keep (w':=wr) (fun _ p hp=>hb.cell (HV.out _ hp))) hn
    go_wp2_with fail
    refine (yb0 nm pol comp ia il ic ra rl rc s _).mono ?_
    rintro e w1 ⟨⟨r,rfl,hr⟩,hb1⟩
    have hb01:=bx hb hb1
    go_wp2
    go_ret2
    exact ⟨⟨_,rfl⟩,hb01⟩
   ·go_wp2
    go_ret2
    exact ⟨⟨_,rfl⟩,hb⟩
end Go.Proofs.YthmlndmlnlfhnaaGreatDoor
