import Derived.WalkKit
import Derived.WalkSpells
import Derived.Lib.Hide
import Derived.ArgAppend
import Derived.Deep.RegionLaw
import Derived.Laws.AppendOwnNone
import Derived.Laws.OwnMore
import Derived.Test.YthmlndmlnlfhnaaGreatDoorRows
import Derived.OpenShut
import Derived.ProofKit
import Derived.SizedLaws
import Derived.Deep.SlicePairs
import Derived.Lib.ItoaNum
import Derived.Lib.AtoiAll
import Derived.Lib.AtoiTie
import Derived.Lib.SlTrimSet
import Derived.Lib.Join
set_option maxRecDepth 100000
set_option maxHeartbeats 16000000
namespace Go.Proofs.YthmlndmlnlfhnaaGreatDoor
open Go.RowKit
structure Enc (α:Type) where
 size:Nat
 rd:World→(Nat→Prop) → α→List Value→Prop
 len:∀ {w S x cs},rd w S x cs→cs.length=size
 keep:∀ {w w':World} {S x cs},rd w S x cs→(∀ p:Addr,S p.block→w'.cell? p=w.cell? p)→rd w' S x cs
 more:∀ {w} {S S':Nat→Prop} {x cs},rd w S x cs→(∀ k,S k→S' k)→rd w S' x cs
 one:∀ {w S x cs},rd w S x cs→∀ u∈cs,u.oneCell'=true
def Enc.int:Enc Int:=⟨1,fun _ _ x cs=>cs = [.int .i64 x],fun h=>by subst h;rfl,fun h _=>h,fun h _=>h,fun h u hu=>by subst h;simp at hu;subst hu;rfl⟩
def Enc.bool:Enc Bool:=⟨1,fun _ _ x cs=>cs = [.bool x],fun h=>by subst h;rfl,fun h _=>h,fun h _=>h,fun h u hu=>by subst h;simp at hu;subst hu;rfl⟩
def Enc.str:Enc ByteArray:=⟨1,fun _ _ x cs=>cs = [.string x],fun h=>by subst h;rfl,fun h _=>h,fun h _=>h,fun h u hu=>by subst h;simp at hu;subst hu;rfl⟩
def Enc.rng:Enc (Int × Int):=⟨2,fun _ _ x cs=>cs = [.int .i64 x.1,.int .i64 x.2],fun h=>by subst h;rfl,fun h _=>h,fun h _=>h,fun h u hu=>by subst h;simp at hu;rcases hu with rfl | rfl <;> rfl⟩
def yc2 {α:Type} (E:Enc α) (w:World) (S:Nat→Prop) (b o:Nat) (l:List α):Prop :=
 ∀ i x,l[i]? = some x→∃ cs,E.rd w S x cs∧∀ j v,cs[j]? = some v→w.cell? ⟨b,o+i*E.size+j,none⟩=some v
def Sl {α:Type} (E:Enc α) (w:World) (S:Nat→Prop) (l:List α) (v:Value):Prop :=
 ∃ A c,v = .slice A l.length c∧l.length≤c∧c≤maxLen∧(A=none→c=0)∧(0<l.length→∃ b o,A=some ⟨b,o,none⟩∧S b∧yc2 E w S b o l)
section
variable {α:Type} {E:Enc α} {w w':World} {S S':Nat→Prop} {l:List α} {v:Value} {b o:Nat}
theorem yc2.keep (h:yc2 E w S b o l) (hb:S b) (hk:∀ p:Addr,S p.block→w'.cell? p=w.cell? p):yc2 E w' S b o l:=by
 intro i x hx
 obtain ⟨cs,h1,h2⟩:=h i x hx
 exact ⟨cs,E.keep h1 hk,fun j u hu=>(hk _ hb).trans (h2 j u hu)⟩
theorem yc2.more (h:yc2 E w S b o l) (hS:∀ k,S k→S' k):yc2 E w S' b o l:=by
 intro i x hx
 obtain ⟨cs,h1,h2⟩:=h i x hx
 exact ⟨cs,E.more h1 hS,h2⟩
theorem Sl.keep (h:Sl E w S l v) (hk:∀ p:Addr,S p.block→w'.cell? p=w.cell? p):Sl E w' S l v:=by
 obtain ⟨A,c,h1,h2,h3,hn,h4⟩:=h
 refine ⟨A,c,h1,h2,h3,hn,fun h0=>?_⟩
 obtain ⟨b,o,h5,h6,h7⟩:=h4 h0
 exact ⟨b,o,h5,h6,h7.keep h6 hk⟩
theorem Sl.more (h:Sl E w S l v) (hS:∀ k,S k→S' k):Sl E w S' l v:=by
 obtain ⟨A,c,h1,h2,h3,hn,h4⟩:=h
 refine ⟨A,c,h1,h2,h3,hn,fun h0=>?_⟩
 obtain ⟨b,o,h5,h6,h7⟩:=h4 h0
 exact ⟨b,o,h5,hS _ h6,h7.more hS⟩
theorem Sl.nil:Sl E w S [] (.slice none 0 0):=⟨none,0,rfl,Nat.le_refl _,by unfold maxLen;omega,fun _=>rfl,fun h=>absurd h (by simp)⟩
theorem Sl.below {B:Nat} (h:Sl E w S l v) (hS:∀ k,S k→k<B) (hb:Below B w w'):Sl E w' S l v:=h.keep fun _ hp=>hb.cell (hS _ hp)
end
def Enc.slice {α:Type} (E:Enc α):Enc (List α) :=
 ⟨1,fun w S l cs=>∃ v,cs = [v]∧Sl E w S l v,fun ⟨_,h,_⟩=>by subst h;rfl,fun ⟨v,h,h'⟩ hk=>⟨v,h,h'.keep hk⟩,fun ⟨v,h,h'⟩ hS=>⟨v,h,h'.more hS⟩,fun ⟨v,h,h'⟩ u hu=>by obtain ⟨A,c,rfl,_⟩:=h';subst h;simp at hu;subst hu;rfl⟩
def Old (w:World):Nat→Prop:=fun k=>k<w.heap.size
theorem Sl.rng_at {w:World} {S:Nat→Prop} {l:List (Int × Int)} {A:Option Addr} {n c:Nat} (h:Sl Enc.rng w S l (.slice A n c)) {k:Nat} (hk:k<l.length) :
  ∃ b o x y,A=some ⟨b,o,none⟩∧S b∧Hid (l[k]? = some (x,y))∧w.cell? ⟨b,o+k*2,none⟩=some (.int .i64 x)∧w.cell? ⟨b,o+k*2+1,none⟩=some (.int .i64 y):=by
 obtain ⟨A,c,e,h2,h3,_,h4⟩:=h
 injection e with e1 e2 e3
 subst e1 e2 e3
 obtain ⟨b,o,rfl,h6,h7⟩:=h4 (by omega)
 obtain ⟨cs,h8,h9⟩:=h7 k l[k] (List.getElem?_eq_getElem hk)
 have h8':cs = [.int .i64 l[k].1,.int .i64 l[k].2]:=h8
 subst h8'
 exact ⟨b,o,l[k].1,l[k].2,rfl,h6,List.getElem?_eq_getElem hk,h9 0 _ rfl,h9 1 _ rfl⟩
theorem jc5 {b o b' o':Nat} (h:(some ⟨b,o,none⟩:Option Addr)=some ⟨b',o',none⟩):b=b'∧o=o':=by
 injection h with h;injection h with h1 h2;exact ⟨h1,h2⟩
def jee (l:List (Int × Int)):List Value:=l.flatMap fun x=>[.int .i64 x.1,.int .i64 x.2]
theorem jd3 (l:List (Int × Int)):(jee l).length=l.length*2:=by
 induction l with
 | nil=>rfl
 | cons a l ih=>simp [jee] at *;omega
theorem jfa (l m:List (Int × Int)):jee (l ++ m)=jee l ++ jee m:=by simp [jee]
theorem jrd (l:List (Int × Int)) (i:Nat) (x:Int × Int) (h:l[i]? = some x):(jee l)[i*2]? = some (.int .i64 x.1)∧(jee l)[i*2+1]? = some (.int .i64 x.2):=by
 induction l generalizing i with
 | nil=>simp at h
 | cons a l ih =>
  cases i with
  | zero=>simp at h;subst h;simp [jee]
  | succ i =>
   simp at h
   have:=ih i h
   have e:jee (a :: l) = .int .i64 a.1 :: .int .i64 a.2 :: jee l:=by simp [jee]
   rw [e,show (i+1)*2=(i*2)+1+1 from by omega]
   simpa using this
theorem jre (l:List (Int × Int)) (i:Nat) (x:Int × Int) (h:l[i]? = some x) (n:Int):(jee l).set (i*2+1) (.int .i64 n)=jee (l.set i (x.1,n)):=by
 induction l generalizing i with
 | nil=>simp at h
 | cons a l ih =>
  have e:∀ (a:Int × Int) l,jee (a :: l) = .int .i64 a.1 :: .int .i64 a.2 :: jee l:=by simp [jee]
  cases i with
  | zero=>simp at h;subst h;simp [e]
  | succ i =>
   simp at h
   rw [e,show (i+1)*2+1=(i*2+1)+1+1 from by omega]
   simp [e,ih i h]
def OwnR (w:World) (base e:Nat) (v:Value) (l:List (Int × Int)):Prop:=w.ownsRow base e 2 v l.length (jee l)
section
variable {w w':World} {base e:Nat} {v:Value} {l:List (Int × Int)}
theorem OwnR.nil:OwnR w base e (.slice none 0 0) []:=World.ownsRow_nil w base e 2
theorem OwnR.alloc (h:OwnR w base e v l) (o:Obj):OwnR (w.alloc o) base e v l:=World.ownsRow.alloc h o
theorem OwnR.form (h:OwnR w base e v l):(v = .slice none 0 0∧l = [])∨∃ g c,v = .slice (some ⟨g,0,none⟩) l.length c∧base≤g∧g<w.heap.size∧l.length≤c∧c≤maxLen:=by
 rcases h.2 with ⟨h1,h2⟩ | ⟨g,cap,cur,h1,h2,h3,h4,h5,_⟩
 ·exact .inl ⟨h1,List.length_eq_zero_iff.1 h2⟩
 ·exact .inr ⟨g,cap,h1,h2,(Array.getElem?_eq_some_iff.1 h3).1,h4,h5⟩
theorem OwnR.sl (h:OwnR w base e v l):Sl Enc.rng w (fun k=>base≤k∧k<w.heap.size) l v:=by
 rcases h.form with ⟨rfl,rfl⟩ | ⟨g,c,rfl,h2,h3,h4,h5⟩
 ·exact Sl.nil
 ·refine ⟨_,c,rfl,h4,h5,(fun h=>by cases h),fun _=>⟨g,0,rfl,⟨h2,h3⟩,fun i x hx=>⟨_,rfl,fun j u hu=>?_⟩⟩⟩
  have hi:i<l.length:=(List.getElem?_eq_some_iff.1 hx).1
  obtain ⟨c0,c1⟩:=jrd l i x hx
  have e0:=World.ownsRow.cellAt h (i*2) (by omega)
  have e1:=World.ownsRow.cellAt h (i*2+1) (by omega)
  have es:Enc.rng.size=2:=rfl
  rw [es,Nat.zero_add]
  match j with
  | 0=>simp at hu;subst hu;simpa using e0.trans c0
  | 1=>simp at hu;subst hu;exact e1.trans c1
  | j+2=>simp at hu
theorem OwnR.lt (h:OwnR w base e v l):∀ k,v.ownBlock=some k→base≤k∧k<w.heap.size:=World.ownsRow.lt h
theorem OwnR.below {B:Nat} (h:OwnR w base e v l) (hb:Below B w w') (hB:w.heap.size≤B):OwnR w' base e v l:=by
 refine ⟨h.1,?_⟩
 rcases h.2 with h2 | ⟨g,cap,cur,h1,h2,h3,h4⟩
 ·exact .inl h2
 ·have hg:=(Array.getElem?_eq_some_iff.1 h3).1
  exact .inr ⟨g,cap,cur,h1,h2,(hb.block g (by omega)).trans h3,h4⟩
end
theorem World.grownBy.mono {w w':World} {row:Option Nat} (h:w.grownBy w' none):w.grownBy w' row:=⟨h.os,h.tape,h.output,h.size,fun k hk _=>h.block k hk (by simp)⟩
theorem World.grownBy.trans' {w w1 w2:World} {row:Option Nat} (h:w.grownBy w1 row) (k:w1.grownBy w2 row):w.grownBy w2 row :=
 ⟨k.os.trans h.os,k.tape.trans h.tape,k.output.trans h.output,Nat.le_trans h.size k.size,fun i hi hr=>(k.block i (Nat.lt_of_lt_of_le hi h.size) hr).trans (h.block i hi hr)⟩
theorem jbb {w w':World} {row:Option Nat} (h:Below w.heap.size w w'):w.grownBy w' row:=⟨h.os,h.tape,h.output,h.size,fun k hk _=>h.block k hk⟩
theorem jag {w w':World} {row:Option Nat} {B:Nat} (h:w.grownBy w' row) (hB:B≤w.heap.size) (hr:∀ k,row=some k→B≤k):Below B w w':=(Below.refl B w).grown h hB hr
theorem jbh {B:Nat} {w wr w':World} (h:Below B w wr) (hB:B≤wr.heap.size) (h':Below wr.heap.size wr w'):Below B w w':=h.trans (h'.mono hB)
theorem jad {a b:Bool} (h:a=b):Ending.returned (.bool a) = .returned (.bool b):=by rw [h]
theorem jew {k:IntKind} {a b:Int} (h:a=b):Ending.returned (.int k a) = .returned (.int k b):=by rw [h]
open Go.RowKit
def jed (w:World) (v v':Value):Prop:=∀ g,v'.ownBlock=some g→v.ownBlock=some g∨w.heap.size≤g
theorem jed.refl (w:World) (v:Value):jed w v v:=fun _ h=>.inl h
theorem jed.later {w w2:World} {v v':Value} (h:jed w2 v v') (hs:w.heap.size≤w2.heap.size):jed w v v' :=
 fun g hg=>(h g hg).imp id (fun h=>Nat.le_trans hs h)
theorem jie {P:Program} (w:World) {ops:Array Oper} {rest:List Oper} {o:Oper} {a:Act} {Q:Exit→Act→World→Prop} (hgd:o.guard=none) (s x:Operand) (t:TypeId)
  (ho:o.op = .call { callee:=.builtin .append,args:=#[s,x],argTypes:=#[t,t] })
  (base:Nat) (e:TypeId) (size bytes:Nat) (z:Value) (ht:P.underlying t=some (.slice e)) (hinfo:(P.info? e).map (fun i=>(i.zero,i.size,i.bytes))=some (some z,size,bytes)) (hzs:z.cells.size=size) (hsz:0<size)
  (v:Value) (n:Nat) (xs:List Value) (hs:a.eval s=v) (hown:w.ownsRow base e size v n xs)
  (ad:Addr) (m c:Nat) (news:List Value) (hx:a.eval x = .slice (some ad) m c) (hl:news.length=m*size) (hnews:∀ j u,news[j]? = some u→w.cell? (ad.add j)=some u) (h1:∀ u∈news,u.oneCell'=true)
  (h63:n+m≤maxLen) (hbytes:(n+m)*bytes≤140737488355328) (hbase:base≤w.heap.size) (hm:0<m)
  (h:∀ v' w',w'.ownsRow base e size v' (n+m) (xs ++ news)→w.grownBy w' v.ownBlock→jed w v v'→wpList P ops Q rest (a.put o.dst v') w'):wpList P ops Q (o :: rest) a w:=by
 obtain ⟨i,hi,hz0,hz1,hz2⟩:=info_parts hinfo
 have up:∀ {w':World} {v':Value} {k:Nat} {ys:List Value},w'.ownsRow w.heap.size e size v' k ys→w'.ownsRow base e size v' k ys∧(∀ g,v'.ownBlock=some g→w.heap.size≤g):=by
  intro w' v' k ys ho'
  refine ⟨⟨ho'.1,?_⟩,fun g hg=>(ho'.lt g hg).1⟩
  rcases ho'.2 with h2 | ⟨g,cap,cur,h1,h2,h3⟩
  ·exact .inl h2
  ·exact .inr ⟨g,cap,cur,h1,Nat.le_trans hbase h2,h3⟩
 rcases hown.2 with ⟨rfl,rfl⟩ | ⟨g,cap,cur,rfl,hg1,hg2,hg3,hg4,hg5,hg6⟩
 ·have hxs:xs = []:=List.length_eq_zero_iff.1 (by rw [hown.1];simp)
  subst hxs
  refine wpList_append_grows w hgd s x t ho e i z size bytes ht hi hz0 hz1 hz2 hzs hsz none 0 0 [] hs (fun _=>⟨rfl,rfl⟩) (by simp) (fun b hb=>by cases hb) ad m c news hx hl hnews h1 (by omega) h63 hbytes ?_
  intro v' w' ho' hgr
  exact h v' w' (up ho').1 (World.grownBy.mono hgr) (fun g hg=>.inr ((up ho').2 g hg))
 ·by_cases hroom:n+m≤cap
  ·refine wpList_append_fits w hgd s x t ho base e i size ht hi hz1 g n cap xs hs hown ad m c news hx hl hnews h1 hroom ?_
   intro w' ho' hgr
   exact h _ w' ho' hgr (fun g' hg'=>.inl hg')
  ·have hc:=hown.cells (g:=g) rfl
   refine wpList_append_grows w hgd s x t ho e i z size bytes ht hi hz0 hz1 hz2 hzs hsz (some ⟨g,0,none⟩) n cap xs hs (fun h=>by cases h) hown.1 (fun b hb j u hu=>by injection hb with hb;subst hb;exact hc j u hu) ad m c news hx hl hnews h1 (by omega) h63 hbytes ?_
   intro v' w' ho' hgr
   exact h v' w' (up ho').1 (World.grownBy.mono hgr) (fun g hg=>.inr ((up ho').2 g hg))
theorem Sl.sl_at {α:Type} {E:Enc α} {w:World} {S:Nat→Prop} {l:List (List α)} {A:Option Addr} {n c:Nat} (h:Sl E.slice w S l (.slice A n c)) {k:Nat} (hk:k<l.length) :
  ∃ b o s u,A=some ⟨b,o,none⟩∧S b∧Hid (l[k]? = some s)∧w.cell? ⟨b,o+k,none⟩=some u∧Sl E w S s u:=by
 obtain ⟨A,c,e,h2,h3,_,h4⟩:=h
 injection e with e1 e2 e3
 subst e1 e2 e3
 obtain ⟨b,o,rfl,h6,h7⟩:=h4 (by omega)
 obtain ⟨cs,⟨u,rfl,hu⟩,h9⟩:=h7 k l[k] (List.getElem?_eq_getElem hk)
 refine ⟨b,o,l[k],u,rfl,h6,List.getElem?_eq_getElem hk,?_,hu⟩
 have:=h9 0 u rfl
 have es:E.slice.size=1:=rfl
 rw [es,Nat.mul_one,Nat.add_zero] at this
 exact this
theorem OwnR.setCell_other {w:World} {base e:Nat} {v:Value} {l:List (Int × Int)} (h:OwnR w base e v l) {p:Addr} (hp:v.ownBlock≠some p.block) (u:Value):OwnR (w.setCell p u) base e v l:=by
 refine ⟨h.1,?_⟩
 rcases h.2 with h2 | ⟨g,cap,cur,rfl,h2,h3,h4⟩
 ·exact .inl h2
 ·refine .inr ⟨g,cap,cur,rfl,h2,?_,h4⟩
  rw [Below.heap_setCell _ _ _ _ (by intro hg;subst hg;exact hp rfl)]
  exact h3
open Go.RowKit
section
variable {w w':World} {base e:Nat} {v:Value} {l:List Int}
end
open Go.RowKit
def From (lo:Nat) (w:World):Nat→Prop:=fun k=>lo≤k∧k<w.heap.size
def Off (lo:Nat) (w:World) (v:Value):Nat→Prop:=fun k=>lo≤k∧k<w.heap.size∧v.ownBlock≠some k
def jb9 {α:Type} (E:Enc α) (w:World) (S:Nat→Prop) (l:List α) (us:List Value):Prop :=
 ∀ i x,l[i]? = some x→∃ cs,E.rd w S x cs∧∀ j u,cs[j]? = some u→us[i*E.size+j]? = some u
def OwnG {α:Type} (E:Enc α) (w:World) (base lo e:Nat) (v:Value) (l:List α):Prop :=
 ∃ us:List Value,w.ownsRow base e E.size v l.length us∧jb9 E w (Off lo w v) l us
section
variable {α:Type} {E:Enc α} {w w':World} {base lo e:Nat} {v:Value} {l m:List α} {S S':Nat→Prop} {us vs:List Value}
theorem jb9.nil:jb9 E w S [] us:=fun i x h=>by simp at h
theorem jb9.keep (h:jb9 E w S l us) (hk:∀ p:Addr,S p.block→w'.cell? p=w.cell? p):jb9 E w' S l us:=by
 intro i x hx
 obtain ⟨cs,h1,h2⟩:=h i x hx
 exact ⟨cs,E.keep h1 hk,h2⟩
theorem jb9.more (h:jb9 E w S l us) (hS:∀ k,S k→S' k):jb9 E w S' l us:=by
 intro i x hx
 obtain ⟨cs,h1,h2⟩:=h i x hx
 exact ⟨cs,E.more h1 hS,h2⟩
theorem jb9.append (h:jb9 E w S l us) (h':jb9 E w S m vs) (hl:us.length=l.length*E.size):jb9 E w S (l ++ m) (us ++ vs):=by
 intro i x hx
 by_cases hi:i<l.length
 ·rw [List.getElem?_append_left hi] at hx
  obtain ⟨cs,h1,h2⟩:=h i x hx
  exact ⟨cs,h1,fun j u hu=>by have h3:=h2 j u hu;rw [List.getElem?_append_left (List.getElem?_eq_some_iff.1 h3).1];exact h3⟩
 ·rw [List.getElem?_append_right (by omega)] at hx
  obtain ⟨cs,h1,h2⟩:=h' _ x hx
  refine ⟨cs,h1,fun j u hu=>?_⟩
  have h3:=h2 j u hu
  have e:i*E.size=l.length*E.size+(i-l.length)*E.size:=by rw [← Nat.add_mul];congr 1;omega
  rw [List.getElem?_append_right (by omega),hl,← h3]
  congr 1;omega
theorem jb9.one {x:α} (h:E.rd w S x us):jb9 E w S [x] us:=by
 intro i y hy
 match i with
 | 0=>simp at hy;subst hy;exact ⟨us,h,fun j u hu=>by simpa using hu⟩
 | i+1=>simp at hy
theorem OwnG.nil:OwnG E w base lo e (.slice none 0 0) []:=⟨[],World.ownsRow_nil w base e E.size,jb9.nil⟩
theorem OwnG.lt (h:OwnG E w base lo e v l):∀ k,v.ownBlock=some k→base≤k∧k<w.heap.size:=by
 obtain ⟨us,h1,_⟩:=h
 exact World.ownsRow.lt h1
theorem OwnG.form (h:OwnG E w base lo e v l):∃ A c,v = .slice A l.length c∧l.length≤c∧c≤maxLen∧(A=none→c=0):=by
 obtain ⟨us,h1,_⟩:=h
 rcases h1.2 with ⟨rfl,h2⟩ | ⟨g,cap,cur,rfl,_,_,h4,h5,_⟩
 ·exact ⟨none,0,by rw [h2],by omega,by unfold maxLen;omega,fun _=>rfl⟩
 ·exact ⟨_,cap,rfl,h4,h5,fun h=>by cases h⟩
theorem OwnG.sl (h:OwnG E w base lo e v l) (hlo:lo≤base):Sl E w (From lo w) l v:=by
 obtain ⟨us,h1,h2⟩:=h
 have hlen:=h1.1
 rcases h1.2 with ⟨rfl,h3⟩ | ⟨g,cap,cur,rfl,hb,hg,h4,h5,h6,h7⟩
 ·obtain rfl:l = []:=List.length_eq_zero_iff.1 h3
  exact Sl.nil
 ·have hgl:=(Array.getElem?_eq_some_iff.1 hg).1
  refine ⟨_,cap,rfl,h4,h5,(fun h=>by cases h),fun _=>⟨g,0,rfl,⟨by omega,hgl⟩,fun i x hx=>?_⟩⟩
  obtain ⟨cs,h8,h9⟩:=h2 i x hx
  refine ⟨cs,E.more h8 (fun k hk=>⟨hk.1,hk.2.1⟩),fun j u hu=>?_⟩
  have:=h1.cells (g:=g) rfl _ _ (h9 j u hu)
  have ea:∀ i,(⟨g,0,none⟩:Addr).add i = ⟨g,0+i,none⟩:=fun i=>by unfold Addr.add;split <;> simp_all
  rw [ea] at this
  rw [Nat.add_assoc]
  exact this
theorem OwnG.slOld (h:OwnG E w base lo e v l) (hlo:lo≤base):Sl E w (Old w) l v:=(h.sl hlo).more fun _ h=>h.2
theorem ja1 {size n:Nat} {xs:List Value} (h:w.ownsRow base e size v n xs) (hk:∀ g,v.ownBlock=some g→w'.heap[g]? = w.heap[g]?):w'.ownsRow base e size v n xs:=by
 refine ⟨h.1,?_⟩
 rcases h.2 with h2 | ⟨g,cap,cur,h1,h2,h3,h4⟩
 ·exact .inl h2
 ·exact .inr ⟨g,cap,cur,h1,h2,(hk g (by rw [h1];rfl)).trans h3,h4⟩
theorem OwnG.below {B:Nat} (h:OwnG E w base lo e v l) (hb:Below B w w') (hB:w.heap.size≤B):OwnG E w' base lo e v l:=by
 have hlt:=h.lt
 obtain ⟨us,h1,h2⟩:=h
 refine ⟨us,ja1 h1 (fun g hg=>hb.block g (by have:=hlt g hg;omega)),?_⟩
 refine (h2.keep (w':=w') fun p hp=>hb.cell (by have:=hp.2.1;omega)).more fun k hk=>⟨hk.1,?_,hk.2.2⟩
 have:=hb.size
 have:=hk.2.1
 omega
theorem OwnG.next (h:OwnG E w base lo e v l) (hb:Below w.heap.size w w'):OwnG E w' base lo e v l:=h.below hb (Nat.le_refl _)
theorem OwnG.alloc (h:OwnG E w base lo e v l) (o:Obj):OwnG E (w.alloc o) base lo e v l:=h.next ((Below.refl _ _).alloc (Nat.le_refl _) o)
theorem OwnG.mono {base':Nat} (h:OwnG E w base lo e v l) (hB:base'≤base):OwnG E w base' lo e v l:=by
 obtain ⟨us,h1,h2⟩:=h
 refine ⟨us,⟨h1.1,?_⟩,h2⟩
 rcases h1.2 with h3 | ⟨g,cap,cur,h4,h5,h6⟩
 ·exact .inl h3
 ·exact .inr ⟨g,cap,cur,h4,Nat.le_trans hB h5,h6⟩
theorem OwnG.monoLo {lo':Nat} (h:OwnG E w base lo e v l) (hB:lo'≤lo):OwnG E w base lo' e v l:=by
 obtain ⟨us,h1,h2⟩:=h
 exact ⟨us,h1,h2.more fun k hk=>⟨Nat.le_trans hB hk.1,hk.2⟩⟩
theorem OwnG.grown {v':Value} (hus:us.length=l.length*E.size) (hel:jb9 E w (Off lo w v) l us) (ho':w'.ownsRow base e E.size v' (l.length+m.length) (us ++ vs)) (hg:w.grownBy w' v.ownBlock) (hmv:jed w v v') (hnew:jb9 E w (Off lo w v) m vs):OwnG E w' base lo e v' (l ++ m):=by
 refine ⟨us ++ vs,by rw [List.length_append];exact ho',?_⟩
 refine ((hel.append hnew hus).keep (w':=w') fun p hp=>?_).more fun k hk=>⟨hk.1,?_,fun hv=>?_⟩
 ·exact World.cell?_of_block (hg.block _ hp.2.1 (fun e=>hp.2.2 e.symm))
 ·exact Nat.lt_of_lt_of_le hk.2.1 hg.size
 ·rcases hmv k hv with h | h
  ·exact hk.2.2 h
  ·exact absurd hk.2.1 (by omega)
end
theorem jet {α:Type} {E:Enc α} {w w1 w2:World} {base lo e:Nat} {v:Value} {l:List α} (h:OwnG E w base lo e v l) (hlo:lo≤w.heap.size) (hsz:w1.heap.size≤w2.heap.size):∀ k,From w.heap.size w1 k→Off lo w2 v k:=by
 intro k hk
 refine ⟨Nat.le_trans hlo hk.1,Nat.lt_of_lt_of_le hk.2 hsz,fun hv=>?_⟩
 have:=h.lt k hv
 have:=hk.1
 omega
theorem OwnG.lit {α:Type} {E:Enc α} (w:World) {base lo e:Nat} (l:List α) (cs:Array Value) (hb:base≤w.heap.size) (hm:l.length≤maxLen) (hs:cs.size=l.length*E.size) (he:jb9 E (w.alloc (.cells cs e)) (From lo w) l cs.toList) :
  OwnG E (w.alloc (.cells cs e)) base lo e (.slice (some ⟨w.heap.size,0,none⟩) l.length l.length) l:=by
 refine ⟨cs.toList,World.ownsRow_lit w cs l.length hb hm hs,he.more fun k hk=>⟨hk.1,?_,?_⟩⟩
 ·have:=hk.2;simp;omega
 ·intro h
  have:=hk.2
  simp [Value.ownBlock] at h
  omega
theorem jav {P:Program} (w:World) {ops:Array Oper} {rest:List Oper} {o:Oper} {a:Act} {Q:Exit→Act→World→Prop} (hgd:o.guard=none) (s x:Operand) (t:TypeId)
  (ho:o.op = .call { callee:=.builtin .append,args:=#[s,x],argTypes:=#[t,t] })
  (base:Nat) (e:TypeId) (size bytes:Nat) (z:Value) (ht:P.underlying t=some (.slice e)) (hinfo:(P.info? e).map (fun i=>(i.zero,i.size,i.bytes))=some (some z,size,bytes)) (hzs:z.cells.size=size) (hsz:0<size)
  (v:Value) (n:Nat) (xs:List Value) (hs:a.eval s=v) (hown:w.ownsRow base e size v n xs)
  (ad:Addr) (m c:Nat) (news:List Value) (hx:a.eval x = .slice (some ad) m c) (hl:news.length=m*size) (hnews:∀ j u,news[j]? = some u→w.cell? (ad.add j)=some u) (h1:∀ u∈news,u.oneCell'=true)
  (h63:n+m≤maxLen) (hbytes:(n+m)*bytes≤140737488355328) (hbase:base≤w.heap.size)
  (h:∀ v' w',w'.ownsRow base e size v' (n+m) (xs ++ news)→w.grownBy w' v.ownBlock→jed w v v'→wpList P ops Q rest (a.put o.dst v') w'):wpList P ops Q (o :: rest) a w:=by
 by_cases hm:0<m
 ·exact jie w hgd s x t ho base e size bytes z ht hinfo hzs hsz v n xs hs hown ad m c news hx hl hnews h1 h63 hbytes hbase hm h
 ·obtain rfl:m=0:=by omega
  obtain ⟨i,hi,hz0,hz1,hz2⟩:=info_parts hinfo
  rcases hown.2 with ⟨rfl,rfl⟩ | ⟨g,cap,cur,rfl,hg1,hg2,hg3,hg4,hg5,hg6⟩
  ·refine wpList_append_own w hgd s x t ho base e i z size bytes ht hi hz0 hz1 hz2 hzs hsz _ _ _ hs hown ad 0 c news hx hl hnews h1 h63 hbytes hbase ?_
   intro v' w' ho' hgr hnil
   obtain rfl:=hnil.2 ⟨rfl,rfl⟩
   exact h _ w' ho' hgr (jed.refl _ _)
  ·refine wpList_append_fits w hgd s x t ho base e i size ht hi hz1 g n cap xs hs hown ad 0 c news hx hl hnews h1 (by omega) ?_
   intro w' ho' hgr
   exact h _ w' ho' hgr (fun g' hg'=>.inl hg')
theorem jaf {α:Type} {E:Enc α} {P:Program} (w:World) {ops:Array Oper} {rest:List Oper} {o:Oper} {a:Act} {Q:Exit→Act→World→Prop} (hgd:o.guard=none) (s x:Operand) (t:TypeId)
  (ho:o.op = .call { callee:=.builtin .append,args:=#[s,x],argTypes:=#[t,t] })
  (base lo:Nat) (e:TypeId) (bytes:Nat) (z:Value) (ht:P.underlying t=some (.slice e)) (hinfo:(P.info? e).map (fun i=>(i.zero,i.size,i.bytes))=some (some z,E.size,bytes)) (hzs:z.cells.size=E.size) (hsz:0<E.size)
  (v:Value) (l:List α) (hs:a.eval s=v) (hown:OwnG E w base lo e v l)
  (ad:Addr) (y:α) (cs:List Value) (hx:a.eval x = .slice (some ad) 1 1) (hy:E.rd w (Off lo w v) y cs) (hnews:∀ j u,cs[j]? = some u→w.cell? (ad.add j)=some u)
  (hbytes:(l.length+1)*bytes≤140737488355328) (h63:l.length+1≤maxLen) (hbase:base≤w.heap.size)
  (h:∀ v' w',OwnG E w' base lo e v' (l ++ [y])→w.grownBy w' v.ownBlock→jed w v v'→wpList P ops Q rest (a.put o.dst v') w'):wpList P ops Q (o :: rest) a w:=by
 obtain ⟨us,h1,h2⟩:=hown
 refine jav w hgd s x t ho base e E.size bytes z ht hinfo hzs hsz v l.length us hs h1 ad 1 1 cs hx (by rw [E.len hy];omega) hnews (E.one hy) h63 hbytes hbase ?_
 intro v' w' ho' hg hmv
 exact h v' w' (OwnG.grown (m:=[y]) h1.1 h2 ho' hg hmv (jb9.one hy)) hg hmv
theorem Sl.cells {α:Type} {E:Enc α} {w:World} {S:Nat→Prop} {l:List α} {a:Addr} {n c:Nat} (h:Sl E w S l (.slice (some a) n c)) :
  ∃ us:List Value,us.length=l.length*E.size∧jb9 E w S l us∧(∀ j u,us[j]? = some u→w.cell? (a.add j)=some u)∧∀ u∈us,u.oneCell'=true:=by
 obtain ⟨A,c,e,h2,h3,_,h4⟩:=h
 injection e with e1 e2 e3
 subst e1 e2 e3
 by_cases h0:0<l.length
 ·obtain ⟨b,o,e,hS,h7⟩:=h4 h0
  injection e with e
  subst e
  have ea:∀ i,(⟨b,o,none⟩:Addr).add i = ⟨b,o+i,none⟩:=fun i=>by unfold Addr.add;split <;> simp_all
  clear h4 h2 h3 h0 hS
  have key:∀ (m:List α) (k:Nat),(∀ i x,m[i]? = some x→∃ cs,E.rd w S x cs∧∀ j v,cs[j]? = some v→w.cell? ⟨b,o+(k+i)*E.size+j,none⟩=some v) →
    ∃ us:List Value,us.length=m.length*E.size∧jb9 E w S m us∧(∀ j u,us[j]? = some u→w.cell? ⟨b,o+k*E.size+j,none⟩=some u)∧∀ u∈us,u.oneCell'=true:=by
   intro m
   induction m with
   | nil=>intro k _;exact ⟨[],by simp,jb9.nil,by simp,by simp⟩
   | cons x m ih =>
    intro k hm
    obtain ⟨cs,c1,c2⟩:=hm 0 x rfl
    obtain ⟨us,u1,u2,u3,u4⟩:=ih (k+1) (fun i y hy=>by
     obtain ⟨cs',d1,d2⟩:=hm (i+1) y (by simpa using hy)
     exact ⟨cs',d1,fun j v hv=>by rw [← d2 j v hv,show k+1+i=k+(i+1) from by omega]⟩)
    have hcl:=E.len c1
    refine ⟨cs ++ us,by simp [u1,hcl,Nat.add_mul];omega,?_,fun j u hu=>?_,fun u hu=>?_⟩
    ·exact jb9.append (l:=[x]) (jb9.one c1) u2 (by simp [hcl])
    ·by_cases hj:j<cs.length
     ·rw [List.getElem?_append_left hj] at hu
      simpa using c2 j u hu
     ·rw [List.getElem?_append_right (by omega)] at hu
      have:=u3 _ u hu
      rw [← this]
      congr 2
      rw [Nat.add_mul];omega
    ·rcases List.mem_append.1 hu with h | h
     ·exact E.one c1 u h
     ·exact u4 u h
  obtain ⟨us,u1,u2,u3,u4⟩:=key l 0 (fun i x hx=>by
   obtain ⟨cs,c1,c2⟩:=h7 i x hx
   exact ⟨cs,c1,fun j v hv=>by rw [← c2 j v hv,Nat.zero_add]⟩)
  refine ⟨us,u1,u2,fun j u hu=>?_,u4⟩
  rw [ea,← u3 j u hu];simp
 ·obtain rfl:l = []:=List.length_eq_zero_iff.1 (by omega)
  exact ⟨[],by simp,jb9.nil,by simp,by simp⟩
theorem jb6 {α:Type} {E:Enc α} {P:Program} (w:World) {ops:Array Oper} {rest:List Oper} {o:Oper} {a:Act} {Q:Exit→Act→World→Prop} (hgd:o.guard=none) (s x:Operand) (t:TypeId)
  (ho:o.op = .call { callee:=.builtin .append,args:=#[s,x],argTypes:=#[t,t] })
  (base lo:Nat) (e:TypeId) (bytes:Nat) (z:Value) (ht:P.underlying t=some (.slice e)) (hinfo:(P.info? e).map (fun i=>(i.zero,i.size,i.bytes))=some (some z,E.size,bytes)) (hzs:z.cells.size=E.size) (hsz:0<E.size)
  (v:Value) (l:List α) (hs:a.eval s=v) (hown:OwnG E w base lo e v l)
  (vx:Value) (m:List α) (hx:a.eval x=vx) (S:Nat→Prop) (hm:Sl E w S m vx) (hS:∀ y cs,E.rd w S y cs→E.rd w (Off lo w v) y cs)
  (hbytes:(l.length+m.length)*bytes≤140737488355328) (h63:l.length+m.length≤maxLen) (hbase:base≤w.heap.size)
  (h:∀ v' w',OwnG E w' base lo e v' (l ++ m)→w.grownBy w' v.ownBlock→jed w v v'→wpList P ops Q rest (a.put o.dst v') w'):wpList P ops Q (o :: rest) a w:=by
 obtain ⟨us,h1,h2⟩:=hown
 have hm':=hm
 obtain ⟨A,c,rfl,hc1,hc2,hn,h4⟩:=hm
 cases A with
 | none =>
  have hc:=hn rfl
  subst hc
  obtain rfl:m = []:=List.length_eq_zero_iff.1 (by omega)
  obtain ⟨i,hi,hz0,hz1,hz2⟩:=info_parts hinfo
  refine wpList_append_own_none hgd s x t ho base e i E.size ht hi v _ _ hs h1 hx ?_
  refine h v w ?_ ⟨rfl,rfl,rfl,Nat.le_refl _,fun _ _ _=>rfl⟩ (jed.refl _ _)
  rw [List.append_nil]
  exact ⟨us,h1,h2⟩
 | some ad =>
  obtain ⟨vs,v1,v2,v3,v4⟩:=hm'.cells
  refine jav w hgd s x t ho base e E.size bytes z ht hinfo hzs hsz v l.length us hs h1 ad m.length c vs hx v1 v3 v4 h63 hbytes hbase ?_
  intro v' w' ho' hg hmv
  exact h v' w' (OwnG.grown h1.1 h2 ho' hg hmv (fun i y hy=>by obtain ⟨cs,c1,c2⟩:=v2 i y hy;exact ⟨cs,hS y cs c1,c2⟩)) hg hmv
theorem Sl.front {α:Type} {E:Enc α} {w:World} {S:Nat→Prop} {l:List α} {A:Option Addr} {n c:Nat} (h:Sl E w S l (.slice A n c)) {j:Nat} (hj:j≤l.length):Sl E w S (l.take j) (.slice A j c):=by
 obtain ⟨A,c,e,h2,h3,hn,h4⟩:=h
 injection e with e1 e2 e3
 subst e1 e2 e3
 have el:(l.take j).length=j:=by rw [List.length_take];omega
 refine ⟨A,c,by rw [el],by omega,h3,hn,fun h0=>?_⟩
 obtain ⟨b,o,h5,h6,h7⟩:=h4 (by omega)
 refine ⟨b,o,h5,h6,fun i x hx=>h7 i x ?_⟩
 have hi:=(List.getElem?_eq_some_iff.1 hx).1
 rw [List.getElem?_take_of_lt (by omega)] at hx
 exact hx
theorem Sl.back {α:Type} {E:Enc α} {w:World} {S:Nat→Prop} {l:List α} {b o n c:Nat} (h:Sl E w S l (.slice (some ⟨b,o,none⟩) n c)) {j:Nat} (hj:j≤l.length) :
  Sl E w S (l.drop j) (.slice (some (if c=j then ⟨b,o,none⟩ else ⟨b,o+j*E.size,none⟩)) (n-j) (c-j)):=by
 obtain ⟨A,c,e,h2,h3,hn,h4⟩:=h
 injection e with e1 e2 e3
 subst e1 e2 e3
 have el:(l.drop j).length=l.length-j:=List.length_drop ..
 refine ⟨_,c-j,by rw [el],by omega,by unfold maxLen at *;omega,(fun h=>by cases h),fun h0=>?_⟩
 obtain ⟨b',o',h5,h6,h7⟩:=h4 (by omega)
 injection h5 with h5
 injection h5 with h5 h5'
 subst h5 h5'
 refine ⟨b,o+j*E.size,by rw [if_neg (by omega)],h6,fun i x hx=>?_⟩
 rw [List.getElem?_drop] at hx
 obtain ⟨cs,c1,c2⟩:=h7 _ x hx
 refine ⟨cs,c1,fun k u hu=>?_⟩
 rw [← c2 k u hu]
 congr 2
 rw [Nat.add_mul];omega
theorem Sl.back1 {α:Type} {E:Enc α} {w:World} {S:Nat→Prop} {l:List α} {b o n c:Nat} (h:Sl E w S l (.slice (some ⟨b,o,none⟩) n c)) (hE:E.size=1) {j:Nat} (hj:j≤l.length) :
  Sl E w S (l.drop j) (.slice (if c=j then some ⟨b,o,none⟩ else some ⟨b,o+j,none⟩) (n-j) (c-j)):=by
 have:=h.back hj
 rw [hE,Nat.mul_one] at this
 split at this
 ·rename_i hc;rw [if_pos hc];exact this
 ·rename_i hc;rw [if_neg hc];exact this
theorem Sl.on {α:Type} {E:Enc α} {w w':World} {lo:Nat} {l:List α} {v:Value} (h:Sl E w (From lo w) l v) (hb:Below w.heap.size w w'):Sl E w' (From lo w') l v :=
 (h.below (fun _ h=>h.2) hb).more fun _ h=>⟨h.1,Nat.lt_of_lt_of_le h.2 hb.size⟩
theorem Sl.onOld {α:Type} {E:Enc α} {w w':World} {l:List α} {v:Value} (h:Sl E w (Old w) l v) (hb:Below w.heap.size w w'):Sl E w' (Old w') l v :=
 (h.below (fun _ h=>h) hb).more fun _ h=>Nat.lt_of_lt_of_le h hb.size
theorem Sl.form {α:Type} {E:Enc α} {w:World} {S:Nat→Prop} {l:List α} {v:Value} (h:Sl E w S l v):∃ A c,v = .slice A l.length c∧l.length≤c∧c≤maxLen:=by
 obtain ⟨A,c,h1,h2,h3,_⟩:=h
 exact ⟨A,c,h1,h2,h3⟩
def jji {α:Type} (E:Enc α) (l:List α) (w:World) (e:Ending) (w':World):Prop:=∃ v,e = .returned v∧Sl E w' (From w.heap.size w') l v∧Below w.heap.size w w'
def jj6 {α:Type} (E:Enc α) (ty lo:Nat) (l:List α) (w:World) (e:Ending) (w':World):Prop:=∃ v,e = .returned v∧OwnG E w' w.heap.size lo ty v l∧Below w.heap.size w w'
theorem OwnR.from_ {w:World} {base e:Nat} {v:Value} {l:List (Int × Int)} (h:OwnR w base e v l):Sl Enc.rng w (From base w) l v:=h.sl
open Go.RowKit
theorem jia {P:Program} (w:World) (base:Nat) (t ty e:TypeId) (size bytes:Nat) (z:Value) (ht:P.underlying t=some (.slice e)) (hinfo:(P.info? e).map (fun i=>(i.zero,i.size,i.bytes))=some (some z,size,bytes)) (hzs:z.cells.size=size) (hsz:0<size)
  (v:Value) (n:Nat) (xs:List Value) (hown:w.ownsRow base e size v n xs)
  (ad:Addr) (m c:Nat) (news:List Value) (hl:news.length=m*size) (hnews:∀ j u,news[j]? = some u→w.cell? (ad.add j)=some u) (h1:∀ u∈news,u.oneCell'=true)
  (h63:n+m≤maxLen) (hbytes:(n+m)*bytes≤140737488355328) (hbase:base≤w.heap.size) :
  ∃ v' w',(Builtin.append_ #[t,t] ty #[v,.slice (some ad) m c]).run P w = .ok v' w'∧w'.ownsRow base e size v' (n+m) (xs ++ news)∧w.grownBy w' v.ownBlock∧jed w v v':=by
 obtain ⟨i,hi,hz0,hz1,hz2⟩:=info_parts hinfo
 rcases hown.2 with ⟨rfl,rfl⟩ | ⟨g,cap,cur,rfl,hg1,hg2,hg3,hg4,hg5,hg6⟩
 ·have hxs:xs = []:=List.length_eq_zero_iff.1 (by rw [hown.1];simp)
  subst hxs
  obtain ⟨v',w',hr,ho,hg,_⟩:=run_append_own (P:=P) w w.heap.size t ty e i z size bytes ht hi hz0 hz1 hz2 hzs hsz _ _ _ (World.ownsRow_nil w _ e size) ad m c news hl hnews h1 h63 hbytes (Nat.le_refl _)
  refine ⟨v',w',hr,⟨ho.1,?_⟩,hg,fun k hk=>.inr (ho.lt k hk).1⟩
  rcases ho.2 with h2 | ⟨g,cap,cur,h1,h2,h3⟩
  ·exact .inl h2
  ·exact .inr ⟨g,cap,cur,h1,Nat.le_trans hbase h2,h3⟩
 ·by_cases hroom:n+m≤cap
  ·obtain ⟨w',hr,ho,hg⟩:=run_append_fits (P:=P) w base t ty e i size ht hi hz1 g n cap xs hown ad m c news hl hnews h1 hroom
   exact ⟨_,w',hr,ho,hg,fun k hk=>.inl hk⟩
  ·obtain ⟨v',w',hr,ho,hg⟩:=run_append_arg_grows (P:=P) w t ty e i z size bytes ht hi hz0 hz1 hz2 hzs hsz ⟨g,0,none⟩ n cap xs hown.1 (hown.cells (g:=g) rfl) ad m c news hl hnews (by omega) h63 hbytes
   refine ⟨v',w',hr,⟨ho.1,?_⟩,World.grownBy.mono hg,fun k hk=>.inr (ho.lt k hk).1⟩
   rcases ho.2 with h2 | ⟨g,cap,cur,h1,h2,h3⟩
   ·exact .inl h2
   ·exact .inr ⟨g,cap,cur,h1,Nat.le_trans hbase h2,h3⟩
theorem jgf {α:Type} {E:Enc α} {P:Program} {ops:Array Oper} {o:Oper} {a:Act} {w:World} {K:Act→World→Prop} {Q:Exit→Act→World→Prop} {X:Prop}
  (hg:o.guard=none) (s x:Operand) (t:TypeId) (ho:o.op=Op.call { callee:=Callee.builtin Builtin.append,args:=#[s,x],argTypes:=#[t,t] })
  (base lo:Nat) (e:TypeId) (bytes:Nat) (z:Value) (ht:P.underlying t=some (.slice e)) (hinfo:(P.info? e).map (fun i=>(i.zero,i.size,i.bytes))=some (some z,E.size,bytes)) (hzs:z.cells.size=E.size) (hsz:0<E.size)
  (v:Value) (l:List α) (hs:a.eval s=v) (hown:OwnG E w base lo e v l)
  (ad:Addr) (y:α) (cs:List Value) (hx:a.eval x = .slice (some ad) 1 1) (hy:E.rd w (Off lo w v) y cs) (hnews:∀ j u,cs[j]? = some u→w.cell? (ad.add j)=some u)
  (hbytes:(l.length+1)*bytes≤140737488355328) (h63:l.length+1≤maxLen) (hbase:base≤w.heap.size)
  (h:∀ v' w',OwnG E w' base lo e v' (l ++ [y])→w.grownBy w' v.ownBlock→jed w v v'→K (a.put o.dst v') w') :
  if Region.wanted o (yielded ops a.tmps)=true then Oper.wp P o a w K Q else X:=by
 have hw:Region.wanted o (yielded ops a.tmps)=true:=by simp [Region.wanted,hg]
 rw [if_pos hw]
 obtain ⟨us,h1,h2⟩:=hown
 obtain ⟨v',w',hr,ho',hg',hmv⟩:=jia (P:=P) w base t o.type e E.size bytes z ht hinfo hzs hsz v l.length us h1 ad 1 1 cs (by rw [E.len hy];omega) hnews (E.one hy) h63 hbytes hbase
 unfold Oper.wp execOp
 simp only [ho,resolve,invoke,builtin,Sem.run_bind,Sem.run_pure,Result.andThen_ok,List.map_toArray,List.map_cons,List.map_nil,hs,hx,hr]
 exact h v' w' (OwnG.grown (m:=[y]) h1.1 h2 ho' hg' hmv (jb9.one hy)) hg' hmv
def Cs (w:World) (b:Nat) (vs:List Value):Prop:=b<w.heap.size∧(∀ j v,vs[j]? = some v→w.cell? ⟨b,j,none⟩=some v)∧∀ j,j<vs.length→w.frozen? ⟨b,j,none⟩=false
section
variable {w w':World} {b g:Nat} {vs:List Value}
theorem Cs.new (w:World) (vs:List Value) (e:Nat):Cs (w.alloc (.cells vs.toArray e)) w.heap.size vs :=
 ⟨by simp,fun j v hv=>(World.cell?_alloc_new ..).trans (by simpa using hv),fun j hj=>by simp⟩
theorem Cs.keep (h:Cs w b vs) (hb:w'.heap[b]? = w.heap[b]?) (hs:w.heap.size≤w'.heap.size):Cs w' b vs :=
 ⟨Nat.lt_of_lt_of_le h.1 hs,fun j v hv=>(World.cell?_of_block hb).trans (h.2.1 j v hv),fun j hj=>(World.frozen?_of_block hb).trans (h.2.2 j hj)⟩
theorem Cs.next (h:Cs w b vs) (hb:Below w.heap.size w w'):Cs w' b vs:=h.keep (hb.block b h.1) hb.size
theorem Cs.grown (h:Cs w b vs) (hg:w.grownBy w' (some g)) (hne:b≠g):Cs w' b vs:=h.keep (hg.block b h.1 (by intro e;injection e with e;exact hne e)) hg.size
theorem Cs.set (h:Cs w b vs) (i:Nat) (hi:i<vs.length) (v:Value):Cs (w.setCell ⟨b,i,none⟩ v) b (vs.set i v):=by
 refine ⟨by simpa [World.setCell] using h.1,fun j u hu=>?_,fun j hj=>by rw [List.length_set] at hj;simpa using h.2.2 j hj⟩
 by_cases hj:j=i
 ·subst hj
  rw [List.getElem?_set_self hi] at hu
  injection hu with hu
  subst hu
  exact World.cell?_setCell_same w _ _ (h.2.1 j vs[j] (List.getElem?_eq_getElem hi))
 ·rw [List.getElem?_set_ne (Ne.symm hj)] at hu
  exact (World.cell?_setCell_other w _ _ _ (by intro e;injection e with e1 e2;omega)).trans (h.2.1 j u hu)
theorem Cs.at (h:Cs w b vs) (j:Nat) {v:Value} (hv:vs[j]? = some v):w.cell? ⟨b,j,none⟩=some v:=h.2.1 j v hv
theorem jal (w:World) (b o:Nat) (v:Value):Below b w (w.setCell ⟨b,o,none⟩ v) :=
 ⟨rfl,rfl,rfl,by simp [World.setCell],fun k hk=>RowKit.Below.heap_setCell _ _ _ _ (by show k≠b;omega)⟩
theorem Cs.below {B:Nat} (h:Cs w b vs) (hb:Below B w w') (hB:b<B):Cs w' b vs:=h.keep (hb.block b hB) hb.size
end
theorem Cs.drew {w:World} {b:Nat} {vs:List Value} (h:Cs w b vs):Cs w.drew b vs:=h.next ((Below.refl _ _).drew)
open Go.RowKit
def Enc.pair {α β:Type} (E:Enc α) (F:Enc β):Enc (α × β) where
 size:=E.size+F.size
 rd w S x cs:=∃ c1 c2,cs=c1 ++ c2∧E.rd w S x.1 c1∧F.rd w S x.2 c2
 len:=by rintro w S x cs ⟨c1,c2,rfl,h1,h2⟩;rw [List.length_append,E.len h1,F.len h2]
 keep:=by rintro w w' S x cs ⟨c1,c2,rfl,h1,h2⟩ hk;exact ⟨c1,c2,rfl,E.keep h1 hk,F.keep h2 hk⟩
 more:=by rintro w S S' x cs ⟨c1,c2,rfl,h1,h2⟩ hk;exact ⟨c1,c2,rfl,E.more h1 hk,F.more h2 hk⟩
 one:=by
  rintro w S x cs ⟨c1,c2,rfl,h1,h2⟩ u hu
  rcases List.mem_append.1 hu with h | h
  ·exact E.one h1 u h
  ·exact F.one h2 u h
abbrev CellD:=Bool × List (Int × Int)
abbrev RuleD:=List CellD × Int
structure TabD where
 name:ByteArray
 pol:Int
 comp:Bool
 ins:List ByteArray
 rules:List RuleD
def Enc.cell:Enc CellD:=Enc.bool.pair Enc.rng.slice
def Enc.rule:Enc RuleD:=Enc.cell.slice.pair Enc.int
def Enc.tabP:Enc (ByteArray × Int × Bool × List ByteArray × List RuleD):=Enc.str.pair (Enc.int.pair (Enc.bool.pair (Enc.str.slice.pair Enc.rule.slice)))
def TabD.prod (t:TabD):ByteArray × Int × Bool × List ByteArray × List RuleD:=(t.name,t.pol,t.comp,t.ins,t.rules)
def Enc.tab:Enc TabD:=⟨5,fun w S t cs=>Enc.tabP.rd w S t.prod cs,fun h=>Enc.tabP.len h,fun h k=>Enc.tabP.keep h k,fun h k=>Enc.tabP.more h k,fun h=>Enc.tabP.one h⟩
theorem Enc.cell_rd {w:World} {S:Nat→Prop} {x:CellD} {cs:List Value}:Enc.cell.rd w S x cs↔∃ v,cs = [.bool x.1,v]∧Sl Enc.rng w S x.2 v:=by
 constructor
 ·rintro ⟨c1,c2,rfl,h1,v,rfl,h2⟩
  have h1':c1 = [.bool x.1]:=h1
  subst h1'
  exact ⟨v,rfl,h2⟩
 ·rintro ⟨v,rfl,h2⟩
  exact ⟨[.bool x.1],[v],rfl,rfl,v,rfl,h2⟩
theorem Enc.rule_rd {w:World} {S:Nat→Prop} {x:RuleD} {cs:List Value}:Enc.rule.rd w S x cs↔∃ v,cs = [v,.int .i64 x.2]∧Sl Enc.cell w S x.1 v:=by
 constructor
 ·rintro ⟨c1,c2,rfl,⟨v,rfl,h2⟩,h1⟩
  have h1':c2 = [.int .i64 x.2]:=h1
  subst h1'
  exact ⟨v,rfl,h2⟩
 ·rintro ⟨v,rfl,h2⟩
  exact ⟨[v],[.int .i64 x.2],rfl,⟨v,rfl,h2⟩,rfl⟩
theorem Enc.tab_rd {w:World} {S:Nat→Prop} {t:TabD} {cs:List Value}:Enc.tab.rd w S t cs↔∃ vi vr,cs = [.string t.name,.int .i64 t.pol,.bool t.comp,vi,vr]∧Sl Enc.str w S t.ins vi∧Sl Enc.rule w S t.rules vr:=by
 constructor
 ·rintro ⟨c1,_,rfl,h1,c2,_,rfl,h2,c3,_,rfl,h3,c4,c5,rfl,⟨vi,rfl,h4⟩,⟨vr,rfl,h5⟩⟩
  have h1':c1 = [.string t.name]:=h1
  have h2':c2 = [.int .i64 t.pol]:=h2
  have h3':c3 = [.bool t.comp]:=h3
  subst h1' h2' h3'
  exact ⟨vi,vr,rfl,h4,h5⟩
 ·rintro ⟨vi,vr,rfl,h4,h5⟩
  exact ⟨[.string t.name],_,rfl,rfl,[.int .i64 t.pol],_,rfl,rfl,[.bool t.comp],_,rfl,rfl,[vi],[vr],rfl,⟨vi,rfl,h4⟩,⟨vr,rfl,h5⟩⟩
theorem Sl.at {α:Type} {E:Enc α} {w:World} {S:Nat→Prop} {l:List α} {A:Option Addr} {n c:Nat} (h:Sl E w S l (.slice A n c)) {k:Nat} (hk:k<l.length) :
  ∃ b o cs,A=some ⟨b,o,none⟩∧S b∧E.rd w S l[k] cs∧∀ j v,cs[j]? = some v→w.cell? ⟨b,o+k*E.size+j,none⟩=some v:=by
 obtain ⟨A,c,e,h2,h3,_,h4⟩:=h
 injection e with e1 e2 e3
 subst e1 e2 e3
 obtain ⟨b,o,rfl,h6,h7⟩:=h4 (by omega)
 obtain ⟨cs,h8,h9⟩:=h7 k l[k] (List.getElem?_eq_getElem hk)
 exact ⟨b,o,cs,rfl,h6,h8,h9⟩
theorem Sl.cell_at {w:World} {S:Nat→Prop} {l:List CellD} {A:Option Addr} {n c:Nat} (h:Sl Enc.cell w S l (.slice A n c)) {k:Nat} (hk:k<l.length) :
  ∃ b o ng rs v,A=some ⟨b,o,none⟩∧S b∧Hid (l[k]? = some (ng,rs))∧w.cell? ⟨b,o+k*2,none⟩=some (.bool ng)∧w.cell? ⟨b,o+k*2+1,none⟩=some v∧Sl Enc.rng w S rs v:=by
 obtain ⟨b,o,cs,rfl,hS,hr,hc⟩:=h.at hk
 obtain ⟨v,rfl,hv⟩:=Enc.cell_rd.1 hr
 exact ⟨b,o,l[k].1,l[k].2,v,rfl,hS,List.getElem?_eq_getElem hk,hc 0 _ rfl,hc 1 _ rfl,hv⟩
theorem Sl.rule_at {w:World} {S:Nat→Prop} {l:List RuleD} {A:Option Addr} {n c:Nat} (h:Sl Enc.rule w S l (.slice A n c)) {k:Nat} (hk:k<l.length) :
  ∃ b o cs x v,A=some ⟨b,o,none⟩∧S b∧Hid (l[k]? = some (cs,x))∧w.cell? ⟨b,o+k*2,none⟩=some v∧w.cell? ⟨b,o+k*2+1,none⟩=some (.int .i64 x)∧Sl Enc.cell w S cs v:=by
 obtain ⟨b,o,cs,rfl,hS,hr,hc⟩:=h.at hk
 obtain ⟨v,rfl,hv⟩:=Enc.rule_rd.1 hr
 exact ⟨b,o,l[k].1,l[k].2,v,rfl,hS,List.getElem?_eq_getElem hk,hc 0 _ rfl,hc 1 _ rfl,hv⟩
theorem Sl.str_at {w:World} {S:Nat→Prop} {l:List ByteArray} {A:Option Addr} {n c:Nat} (h:Sl Enc.str w S l (.slice A n c)) {k:Nat} (hk:k<l.length) :
  ∃ b o x,A=some ⟨b,o,none⟩∧S b∧Hid (l[k]? = some x)∧w.cell? ⟨b,o+k,none⟩=some (.string x):=by
 obtain ⟨b,o,cs,rfl,hS,hr,hc⟩:=h.at hk
 have hr':cs = [.string l[k]]:=hr
 subst hr'
 refine ⟨b,o,l[k],rfl,hS,List.getElem?_eq_getElem hk,?_⟩
 have:=hc 0 _ rfl
 have es:Enc.str.size=1:=rfl
 rw [es,Nat.mul_one,Nat.add_zero] at this
 exact this
def ja9 (w:World) (S:Nat→Prop) (t:TabD) (v:Value):Prop:=∃ vi vr,v = .agg #[.string t.name,.int .i64 t.pol,.bool t.comp,vi,vr]∧Sl Enc.str w S t.ins vi∧Sl Enc.rule w S t.rules vr
theorem ja9.onOld {w w':World} {t:TabD} {v:Value} (h:ja9 w (Old w) t v) (hb:Below w.heap.size w w'):ja9 w' (Old w') t v:=by
 obtain ⟨vi,vr,e,h1,h2⟩:=h
 exact ⟨vi,vr,e,h1.onOld hb,h2.onOld hb⟩
def Enc.dom:Enc (ByteArray × Int × Int):=Enc.str.pair (Enc.int.pair Enc.int)
def domV (d:ByteArray × Int × Int):Value:=.agg #[.string d.1,.int .i64 d.2.1,.int .i64 d.2.2]
theorem Enc.dom_rd {w:World} {S:Nat→Prop} {d:ByteArray × Int × Int} {cs:List Value}:Enc.dom.rd w S d cs↔cs = [.string d.1,.int .i64 d.2.1,.int .i64 d.2.2]:=by
 constructor
 ·rintro ⟨c1,_,rfl,h1,c2,c3,rfl,h2,h3⟩
  have h1':c1 = [.string d.1]:=h1
  have h2':c2 = [.int .i64 d.2.1]:=h2
  have h3':c3 = [.int .i64 d.2.2]:=h3
  subst h1' h2' h3'
  rfl
 ·rintro rfl
  exact ⟨[.string d.1],_,rfl,rfl,[.int .i64 d.2.1],_,rfl,rfl,rfl⟩
theorem Sl.dom_at {w:World} {S:Nat→Prop} {l:List (ByteArray × Int × Int)} {A:Option Addr} {n c:Nat} (h:Sl Enc.dom w S l (.slice A n c)) {k:Nat} (hk:k<l.length) :
  ∃ b o nm lo hi,A=some ⟨b,o,none⟩∧S b∧Hid (l[k]? = some (nm,lo,hi))∧w.cell? ⟨b,o+k*3,none⟩=some (.string nm)∧w.cell? ⟨b,o+k*3+1,none⟩=some (.int .i64 lo)∧w.cell? ⟨b,o+k*3+2,none⟩=some (.int .i64 hi):=by
 obtain ⟨b,o,cs,rfl,hS,hr,hc⟩:=h.at hk
 rw [Enc.dom_rd] at hr
 subst hr
 exact ⟨b,o,l[k].1,l[k].2.1,l[k].2.2,rfl,hS,List.getElem?_eq_getElem hk,hc 0 _ rfl,hc 1 _ rfl,hc 2 _ rfl⟩
theorem Sl.tab_at {w:World} {S:Nat→Prop} {l:List TabD} {A:Option Addr} {n c:Nat} (h:Sl Enc.tab w S l (.slice A n c)) {k:Nat} (hk:k<l.length) :
  ∃ b o nm pol comp ins rules vi vr,A=some ⟨b,o,none⟩∧S b∧Hid (l[k]? = some ⟨nm,pol,comp,ins,rules⟩)∧w.cell? ⟨b,o+k*5,none⟩=some (.string nm)∧w.cell? ⟨b,o+k*5+1,none⟩=some (.int .i64 pol)∧w.cell? ⟨b,o+k*5+2,none⟩=some (.bool comp)∧w.cell? ⟨b,o+k*5+3,none⟩=some vi∧w.cell? ⟨b,o+k*5+4,none⟩=some vr∧Sl Enc.str w S ins vi∧Sl Enc.rule w S rules vr:=by
 obtain ⟨b,o,cs,rfl,hS,hr,hc⟩:=h.at hk
 obtain ⟨vi,vr,rfl,h4,h5⟩:=Enc.tab_rd.1 hr
 exact ⟨b,o,l[k].name,l[k].pol,l[k].comp,l[k].ins,l[k].rules,vi,vr,rfl,hS,List.getElem?_eq_getElem hk,hc 0 _ rfl,hc 1 _ rfl,hc 2 _ rfl,hc 3 _ rfl,hc 4 _ rfl,h4,h5⟩
open Go.ChangeShapes Go.WideShapes Go.ChangeAt Go.RowKit Go.Deep
theorem own:ownKnob Tryz.prog.godebug=none:=by kernel_rfl
theorem ytl:laidOutB Tryz.prog=true:=by kernel_rfl
theorem jz4 {w:World} {a:Addr} {v:Value} (h:w.cell? (a.add 0)=some v):a = ⟨a.block,a.off,none⟩∧a.block<w.heap.size:=by
 have e:a.add 0=a:=by unfold Addr.add;simp
 rw [e] at h
 obtain ⟨b,o,s⟩:=a
 have hs:=World.cell?_spot h
 simp only at hs
 subst hs
 exact ⟨rfl,World.block_lt_of_cell? w _ h⟩
theorem yc3 {a:Addr} (ha:a = ⟨a.block,a.off,none⟩) (k:Nat):a.add k = ⟨a.block,a.off+k,none⟩:=by
 unfold Addr.add
 split
 ·rename_i h;subst h;exact ha
 ·rfl
theorem jq6 {n:Int} (h:(Lit.int .i64 n).wf=true):-9223372036854775808≤n∧n≤9223372036854775807:=by
 have h1:IntKind.i64.min = -9223372036854775808:=rfl
 have h2:IntKind.i64.max=9223372036854775807:=rfl
 simp only [Lit.wf,Bool.and_eq_true,decide_eq_true_eq] at h
 omega
open Go.ChangeShapes Go.WideShapes Go.ChangeAt Go.RowKit Go.Deep
def jfq {α:Type} (P:Program) (E:Enc α) (t:TypeId) (fit:α→Prop):Prop :=
 ∀ (H:Type) (enc:TypeId × Value→H) (W:World) (base:Nat) (spare:Nat→Bool) (held:Bool) (fuel:Nat) (cs:List Value) (x:DataW H × List MemPlace),
  DataW.trod enc P W base spare held fuel t cs=some x→(∀ n∈x.1.weights P t,n≤reachBytes)→∃ y,E.rd W (Old W) y cs∧fit y
theorem jph {H:Type} {P:Program} {e:TypeId}:∀ {ds:List (DataW H)} {d:DataW H},d∈ds→∀ n∈d.weights P e,n∈DataW.weightsAll P e ds
 | d0 :: ds,d,hd,n,hn=>by
  simp only [DataW.weightsAll,List.mem_append]
  rcases List.mem_cons.1 hd with rfl | h
  ·exact .inl hn
  ·exact .inr (jph h n hn)
def in64 (n:Int):Prop:=-9223372036854775808≤n∧n≤9223372036854775807
theorem jh7 {P:Program} {t:TypeId} (ht:P.underlying t=some (.int .i64)):jfq P Enc.int t in64:=by
 intro H enc W base spare held fuel cs x h _
 obtain ⟨n,e,_,wf⟩:=DataW.trod_int ht h
 exact ⟨n,e,jq6 wf⟩
theorem jl4 {P:Program} {t:TypeId} (ht:P.underlying t=some .string):jfq P Enc.str t (fun s=>s.size≤reachBytes):=by
 intro H enc W base spare held fuel cs x h hw
 obtain ⟨s,e,e2,_⟩:=DataW.trod_string ht h
 refine ⟨s,e,?_⟩
 subst e2
 simpa [DataW.weights] using hw s.data.toList.length (by simp [DataW.weights])
theorem jeu {α:Type} [Inhabited α] {P:Program} {E:Enc α} {t e:TypeId} {fit:α→Prop} (ht:P.underlying t=some (.slice e)) (hc:P.cellsOf e=E.size) (h0:0<E.size) (he:jfq P E e fit) :
  jfq P E.slice t (fun l=>l.length*P.bytesOf e≤reachBytes∧∀ y,y∈l→fit y):=by
 intro H enc W base spare held fuel cs x h hw
 rcases open_slice ht h with ⟨rfl,rfl⟩ | ⟨a,len,cap,m,n,D,Pl,rfl,hb,hl,hm,hmm,rfl,hx⟩
 ·exact ⟨[],⟨_,rfl,Sl.nil⟩,by simp,by simp⟩
 ·have hlm:len≤m:=by rw [hmm];split <;> omega
  simp only [DataW.weights,ht,List.length_map,List.length_range,List.mem_cons,List.mem_append] at hw
  have hsz:=hw _ (.inl rfl)
  have hlen:len*P.bytesOf e≤reachBytes:=Nat.le_trans (Nat.mul_le_mul_right _ (by omega)) hsz
  have each:∀ i,i<len→∃ q:α × List Value,E.rd W (Old W) q.1 q.2∧fit q.1∧∀ j u,q.2[j]? = some u→W.cell? (a.add (i*E.size+j))=some u:=by
   intro i hi
   obtain ⟨cs',h1,h2⟩:=hx i (by omega)
   obtain ⟨y,hy,hf⟩:=he H enc W base spare held n cs' _ h2 (fun k hk=>hw k (.inr (.inl (jph (List.mem_map.2 ⟨i,List.mem_range.2 hi,rfl⟩) k hk))))
   obtain ⟨_,hl',hcell⟩:=World.cells?_some h1
   refine ⟨(y,cs'),hy,hf,fun j u hu=>?_⟩
   have hj:j<cs'.length:=(List.getElem?_eq_some_iff.1 hu).1
   have:=hcell j (by omega)
   rw [add_add,hc] at this
   rw [this,hu]
  obtain ⟨q,hq⟩:=choose_lt each
  refine ⟨(List.range len).map fun i=>(q i).1,⟨_,rfl,some a,cap,by simp,by simpa using hl,hm,(fun h=>by cases h),fun hp=>?_⟩,by simpa using hlen,fun y hy=>?_⟩
  ·have hp':0<len:=by simpa using hp
   obtain ⟨h1,_,h3⟩:=hq 0 hp'
   have hl0:=E.len h1
   have hc0:=h3 0 ((q 0).2[0]'(by omega)) (List.getElem?_eq_getElem (by omega))
   rw [Nat.zero_mul,Nat.zero_add] at hc0
   obtain ⟨ha,hbk⟩:=jz4 hc0
   refine ⟨a.block,a.off,by rw [← ha],hbk,fun i y hy=>?_⟩
   obtain ⟨hlt,ex⟩:=List.getElem?_eq_some_iff.1 hy
   simp at hlt ex
   subst ex
   obtain ⟨g1,_,g3⟩:=hq i hlt
   refine ⟨_,g1,fun j u hu=>?_⟩
   have:=g3 j u hu
   rw [yc3 ha] at this
   rw [Nat.add_assoc]
   exact this
  ·obtain ⟨i,hi,rfl⟩:=List.mem_map.1 hy
   exact (hq i (List.mem_range.1 hi)).2.1
theorem jfq.arg {α:Type} {P:Program} {E:Enc α} {t:TypeId} {fit:List α→Prop} (ho:jfq P E.slice t fit) {H:Type} {enc:TypeId × Value→H} {W:World} {base:Nat} {spare:Nat→Bool} {held:Bool} {a0:Option Addr} {len cap:Nat} {d:DataW H} {p:List MemPlace}
  (h:DataW.Trod enc P W base spare held t (.slice a0 len cap) d p) {ts:List TypeId} {ds:List (DataW H)} (hsz:(DataW.weightsEach P ts ds).all (· ≤ reachBytes)=true) {j:Nat} (ht:ts[j]? = some t) (hd:ds[j]? = some d) :
  ∃ l,Sl E W (Old W) l (.slice a0 len cap)∧fit l:=by
 obtain ⟨fuel,hf⟩:=h
 have hf':DataW.trod enc P W base spare held fuel t [.slice a0 len cap]=some (d,p):=by simpa [Value.cells] using hf
 obtain ⟨y,⟨v,e,hv⟩,hy⟩:=ho H enc W base spare held fuel _ _ hf' (fun n hn=>by simpa using List.all_eq_true.1 hsz _ (DataW.weights_mem_each ht hd n hn))
 injection e with e
 subst e
 exact ⟨y,hv,hy⟩
theorem jiu:reachBytes≤140737488355328:=by decide
def ykc (l:List Int):Prop:=l.length*8≤140737488355328∧∀ n,n∈l→in64 n
theorem jfq.mono {α:Type} {P:Program} {E:Enc α} {t:TypeId} {fit fit':α→Prop} (h:jfq P E t fit) (hf:∀ y,fit y→fit' y):jfq P E t fit':=by
 intro H enc W base spare held fuel cs x h1 h2
 obtain ⟨y,h3,h4⟩:=h H enc W base spare held fuel cs x h1 h2
 exact ⟨y,h3,hf y h4⟩
theorem ytx:Tryz.prog.underlying 22=some (.slice 3):=by kernel_rfl
theorem ylo:jfq Tryz.prog Enc.int.slice 22 ykc :=
 (jeu (e:=3) (by kernel_rfl) (by kernel_rfl) (by decide) (jh7 Tryz.underlying3)).mono fun l h=>⟨by have:=h.1;rw [show Tryz.prog.bytesOf 3=8 from by kernel_rfl] at this;exact Nat.le_trans this jiu,h.2⟩
open Go.ChangeShapes Go.WideShapes Go.ChangeAt Go.RowKit Go.Deep
def yex {α:Type} (P:Program) (E:Enc α) (fs:List Field) (off:Nat) (fit:α→Prop):Prop :=
 ∀ (H:Type) (enc:TypeId × Value→H) (W:World) (base:Nat) (spare:Nat→Bool) (held:Bool) (fuel:Nat) (cs:List Value) (xs:List (DataW H × List MemPlace)),
  off+E.size≤cs.length→(∀ (i:Nat) (f:Field),fs[i]? = some f→∃ x,xs[i]? = some x∧DataW.trod enc P W base spare held fuel f.type ((cs.drop f.offset).take (P.cellsOf f.type))=some x∧∀ n∈x.1.weights P f.type,n≤reachBytes) →
  ∃ y,E.rd W (Old W) y ((cs.drop off).take E.size)∧fit y
theorem jit {α:Type} {P:Program} {E:Enc α} {f:Field} {off:Nat} {fit:α→Prop} (ho:f.offset=off) (hc:P.cellsOf f.type=E.size) (he:jfq P E f.type fit):yex P E [f] off fit:=by
 intro H enc W base spare held fuel cs xs hl h
 obtain ⟨x,_,h2,h3⟩:=h 0 f rfl
 rw [ho,hc] at h2
 exact he H enc W base spare held fuel _ x h2 h3
theorem jcs {α β:Type} {P:Program} {E:Enc α} {F:Enc β} {f:Field} {fs:List Field} {off:Nat} {fit:α→Prop} {fit':β→Prop} (ho:f.offset=off) (hc:P.cellsOf f.type=E.size) (he:jfq P E f.type fit) (hr:yex P F fs (off+E.size) fit') :
  yex P (E.pair F) (f :: fs) off (fun y=>fit y.1∧fit' y.2):=by
 intro H enc W base spare held fuel cs xs hl h
 have es:(E.pair F).size=E.size+F.size:=rfl
 rw [es] at hl ⊢
 obtain ⟨x,hx,h2,h3⟩:=h 0 f rfl
 rw [ho,hc] at h2
 obtain ⟨y,hy,fy⟩:=he H enc W base spare held fuel _ x h2 h3
 obtain ⟨z,hz,fz⟩:=hr H enc W base spare held fuel cs xs.tail (by omega) (fun i g hg=>by
  obtain ⟨x',hx',h4⟩:=h (i+1) g (by simpa using hg)
  exact ⟨x',by rw [List.getElem?_tail];exact hx',h4⟩)
 refine ⟨(y,z),⟨_,_,?_,hy,hz⟩,fy,fz⟩
 rw [List.take_add,List.drop_drop]
theorem jwc {H:Type} {P:Program}:∀ {ts:List TypeId} {ds:List (DataW H)} {i:Nat} {t:TypeId} {d:DataW H},ts[i]? = some t→ds[i]? = some d→∀ n∈d.weights P t,n∈DataW.weightsEach P ts ds:=fun h1 h2=>DataW.weights_mem_each h1 h2
theorem jf7 {α:Type} {P:Program} {E:Enc α} {t:TypeId} {fs:Array Field} {fit:α→Prop} (ht:P.underlying t=some (.struct fs)) (hc:P.cellsOf t=E.size) (hf:yex P E fs.toList 0 fit):jfq P E t fit:=by
 intro H enc W base spare held fuel cs x h hw
 obtain ⟨xs,n,_,rfl,hl,hxl,hg⟩:=DataW.trod_struct ht h
 have hl':cs.length=E.size:=hl.trans hc
 obtain ⟨y,hy,fy⟩:=hf H enc W base spare held n cs xs (by omega) (fun i f hi=>by
  have hi':fs[i]? = some f:=by simpa using hi
  have hlt:i<xs.length:=by have:=(Array.getElem?_eq_some_iff.1 hi').1;omega
  have h1:=hg i f hi'
  rw [List.getElem?_eq_getElem hlt] at h1
  refine ⟨xs[i],List.getElem?_eq_getElem hlt,h1,fun k hk=>hw k ?_⟩
  rw [DataW.weights.eq_def]
  simp only [ht]
  exact jwc (ts:=fs.toList.map (·.type)) (i:=i) (t:=f.type) (d:=xs[i].1) (by rw [List.getElem?_map,hi];rfl) (by rw [List.getElem?_map,List.getElem?_eq_getElem hlt];rfl) k hk)
 rw [List.drop_zero,← hl',List.take_length] at hy
 exact ⟨y,hy,fy⟩
theorem jai {α:Type} {l:List α} {k:Nat} {x:α} (h:l[k]? = some x):l.take (k+1)=l.take k ++ [x]:=by
 obtain ⟨hk,rfl⟩:=List.getElem?_eq_some_iff.1 h
 exact List.take_succ_eq_append_getElem hk
theorem jdi {α:Type} {l:List α} {k:Nat} {x:α} (h:l[k]? = some x):l.drop k=x :: l.drop (k+1):=by
 obtain ⟨hk,rfl⟩:=List.getElem?_eq_some_iff.1 h
 exact List.drop_eq_getElem_cons hk
def hasB (l:List (Int × Int)) (n:Int):Bool:=l.any fun r=>decide (r.1≤n) && decide (n≤r.2)
theorem joj (l:List (Int × Int)) (n:Int):hasB l n=true↔∃ r,r∈l∧r.1≤n∧n≤r.2:=by simp [hasB]
theorem jp9 (l:List (Int × Int)) {k:Nat} {x y:Int} (h:l[k]? = some (x,y)) (n:Int):hasB (l.take (k+1)) n=(hasB (l.take k) n || (decide (x≤n) && decide (n≤y))):=by
 unfold hasB
 rw [jai h,List.any_append]
 simp only [List.any_cons,List.any_nil,Bool.or_false]
theorem yoh {l:List (Int × Int)} {k:Nat} {x y:Int} (h:l[k]? = some (x,y)) (n:Int) (h1:x≤n) (h2:n≤y):hasB l n=true :=
 (joj l n).2 ⟨(x,y),List.mem_of_getElem? h,h1,h2⟩
def jbn (last:Int):List (Int × Int)→Bool
 | []=>true
 | r :: rs=>(decide (-1000000≤r.1) && decide (r.2≤1000000) && decide (r.1≤r.2) && decide (last+1<r.1)) && jbn r.2 rs
def jbv (l:List (Int × Int)):Bool:=jbn (-1000002) l
def jpb (l:List (Int × Int)) (k:Nat):Int:=if k=0 then -1000002 else (l.getD (k-1) (0,0)).2
theorem jes {l:List (Int × Int)} {k:Nat} {x y:Int} (h:l[k]? = some (x,y)) (last:Int):jbn last (l.drop k)=((decide (-1000000≤x) && decide (y≤1000000) && decide (x≤y) && decide (last+1<x)) && jbn y (l.drop (k+1))):=by
 rw [jdi h];rfl
theorem jg8 {l:List (Int × Int)} {k:Nat} {x y:Int} (h:l[k]? = some (x,y)):jpb l (k+1)=y:=by
 obtain ⟨hk,e⟩:=List.getElem?_eq_some_iff.1 h
 simp [jpb,hk,e]
theorem ydx {l:List (Int × Int)} {k:Nat} {x y:Int} (h0:0<k) (h:l[k-1]? = some (x,y)):jpb l k=y:=by
 obtain ⟨j,rfl⟩:∃ j,k=j+1:=⟨k-1,by omega⟩
 exact jg8 h
def addL (x y:Int):List (Int × Int):=if y<x then [] else [(x,y)]
theorem jra {x y x' y':Int} (h1:x=x') (h2:y=y'):addL x y=addL x' y':=by rw [h1,h2]
theorem jj7 (x y:Int):(addL x y).length≤1:=by unfold addL;split <;> simp
def jkx (l:List (Int × Int)):List (Int × Int):=l.flatMap fun r=>addL (max r.1 (-1000000)) (min r.2 1000000)
theorem yn0 {l:List (Int × Int)} {k:Nat} {x y:Int} (h:l[k]? = some (x,y)):jkx (l.take (k+1))=jkx (l.take k) ++ addL (max x (-1000000)) (min y 1000000):=by
 rw [jai h];simp [jkx]
theorem jsf (l:List (Int × Int)):(jkx l).length≤l.length:=by
 induction l with
 | nil=>simp [jkx]
 | cons a l ih =>
  have:=jj7 (max a.1 (-1000000)) (min a.2 1000000)
  simp [jkx] at *
  omega
theorem jrf (l:List (Int × Int)) (k:Nat):(jkx (l.take k)).length≤k:=Nat.le_trans (jsf _) (List.length_take_le _ _)
def jc2 (out:List (Int × Int)) (r:Int × Int):List (Int × Int) :=
 match out[out.length-1]? with
 | some p=>if r.1≤p.2+1 then out.set (out.length-1) (p.1,max p.2 r.2) else out ++ [r]
 | none=>out ++ [r]
def jjb (l:List (Int × Int)):List (Int × Int):=l.foldl jc2 []
theorem yk6 {l:List (Int × Int)} {k:Nat} {r:Int × Int} (h:l[k]? = some r):jjb (l.take (k+1))=jc2 (jjb (l.take k)) r:=by
 unfold jjb
 rw [jai h,List.foldl_append];rfl
theorem jvz {out:List (Int × Int)} {r:Int × Int} (h:out.length=0):jc2 out r=out ++ [r]:=by
 have:out = []:=List.length_eq_zero_iff.1 h
 subst this;rfl
theorem ybt {out:List (Int × Int)} {r:Int × Int} {p q:Int} (h:out[out.length-1]? = some (p,q)) (hr:r.1≤q+1):jc2 out r=out.set (out.length-1) (p,max q r.2):=by
 unfold jc2;rw [h];simp [hr]
theorem jy4 {out:List (Int × Int)} {r:Int × Int} {p q:Int} (h:out[out.length-1]? = some (p,q)) (hr:q+1<r.1):jc2 out r=out ++ [r]:=by
 unfold jc2;rw [h];simp;omega
theorem jsx (out:List (Int × Int)) (r:Int × Int):(jc2 out r).length≤out.length+1:=by
 unfold jc2
 split
 ·split <;> simp
 ·simp
theorem jy2 (l:List (Int × Int)):(jjb l).length≤l.length:=by
 have:∀ (l out:List (Int × Int)),(l.foldl jc2 out).length≤out.length+l.length:=by
  intro l
  induction l with
  | nil=>intro out;simp
  | cons a l ih=>intro out;have:=ih (jc2 out a);have:=jsx out a;simp at *;omega
 simpa [jjb] using this l []
theorem jqc (l:List (Int × Int)) (k:Nat):(jjb (l.take k)).length≤k:=Nat.le_trans (jy2 _) (List.length_take_le _ _)
def hiIn (l:List (Int × Int)):Prop:=∀ r,r∈l → -1000000≤r.2∧r.2≤1000000
theorem ykj {l:List (Int × Int)} {k:Nat} {x y:Int} (h:hiIn l) (hk:l[k]? = some (x,y)):-1000000≤y∧y≤1000000:=h (x,y) (List.mem_of_getElem? hk)
theorem jpn {out:List (Int × Int)} {r:Int × Int} (h:hiIn out) (hr:-1000000≤r.2∧r.2≤1000000):hiIn (jc2 out r):=by
 intro q hq
 unfold jc2 at hq
 split at hq
 ·rename_i p hp
  split at hq
  ·rcases List.mem_or_eq_of_mem_set hq with h' | rfl
   ·exact h q h'
   ·have:=h p (List.mem_of_getElem? hp)
    simp;omega
  ·rcases List.mem_append.1 hq with h' | h'
   ·exact h q h'
   ·rw [List.mem_singleton] at h';subst h';exact hr
 ·rcases List.mem_append.1 hq with h' | h'
  ·exact h q h'
  ·rw [List.mem_singleton] at h';subst h';exact hr
theorem jy1 {l:List (Int × Int)} (h:hiIn l) (k:Nat):hiIn (jjb (l.take k)):=by
 have:∀ (l out:List (Int × Int)),hiIn l→hiIn out→hiIn (l.foldl jc2 out):=by
  intro l
  induction l with
  | nil=>intro out _ h;exact h
  | cons a l ih=>intro out h1 h2;exact ih _ (fun r hr=>h1 r (List.mem_cons_of_mem _ hr)) (jpn h2 (h1 a List.mem_cons_self))
 exact this _ [] (fun r hr=>h r (List.mem_of_mem_take hr)) (by intro r hr;simp at hr)
def jbq:List (Int × Int)→List (Int × Int)→List (Int × Int)
 | x :: xs,y :: ys=>addL (max x.1 y.1) (min x.2 y.2) ++ (if x.2<y.2 then jbq xs (y :: ys) else jbq (x :: xs) ys)
 | _,_=>[]
termination_by a b=>a.length+b.length
theorem ygj {a b:List (Int × Int)} {i j:Nat} (h:a.length≤i∨b.length≤j):jbq (a.drop i) (b.drop j) = []:=by
 rcases h with h | h
 ·rw [List.drop_of_length_le h,jbq];simp
 ·rw [List.drop_of_length_le h,jbq];simp
theorem ynu {a b:List (Int × Int)} {i j:Nat} {x y p q:Int} (ha:a[i]? = some (x,y)) (hb:b[j]? = some (p,q)) :
  jbq (a.drop i) (b.drop j)=addL (max x p) (min y q) ++ (if y<q then jbq (a.drop (i+1)) (b.drop j) else jbq (a.drop i) (b.drop (j+1))):=by
 rw [jdi ha,jdi hb,jbq]
def jbo:List (Int × Int)→List (Int × Int)→List (Int × Int)
 | [],_=>[]
 | (x,y) :: rs,[]=>addL x y ++ jbo rs []
 | (x,y) :: rs,(p,q) :: bs=>if q<y then addL x (p-1) ++ jbo ((max x (q+1),y) :: rs) bs else addL x (min y (p-1)) ++ jbo rs ((p,q) :: bs)
termination_by a b=>a.length+b.length
theorem yhh {a b:List (Int × Int)} {k:Nat} (h:a.length≤k):jbo (a.drop k) b = []:=by
 rw [List.drop_of_length_le h,jbo]
theorem yos {rs b:List (Int × Int)} {m:Nat} {x y p q:Int} (hb:b[m]? = some (p,q)) (h:q<y) :
  jbo ((x,y) :: rs) (b.drop m)=addL x (p-1) ++ jbo ((max x (q+1),y) :: rs) (b.drop (m+1)):=by
 rw [jdi hb,jbo,if_pos h]
theorem ykv {rs b:List (Int × Int)} {m:Nat} {x y p q:Int} (hb:b[m]? = some (p,q)) (h:y≤q) :
  jbo ((x,y) :: rs) (b.drop m)=addL x (min y (p-1)) ++ jbo rs (b.drop m):=by
 rw [jdi hb,jbo,if_neg (by omega)]
theorem yku {rs b:List (Int × Int)} {m:Nat} {x y:Int} (h:b.length≤m) :
  jbo ((x,y) :: rs) (b.drop m)=addL x y ++ jbo rs (b.drop m):=by
 rw [List.drop_of_length_le h,jbo]
def yqx (l:List (Int × Int)):Prop:=∀ r,r∈l → -1000000≤r.1∧r.1≤1000000 ∧ -1000000≤r.2∧r.2≤1000000
theorem jx9 {l:List (Int × Int)} {k:Nat} {x y:Int} (h:yqx l) (hk:l[k]? = some (x,y)):-1000000≤x∧x≤1000000 ∧ -1000000≤y∧y≤1000000:=h (x,y) (List.mem_of_getElem? hk)
theorem jao {L x y:Int} {l:List (Int × Int)}:jbn L ((x,y) :: l)=true ↔ -1000000≤x∧y≤1000000∧x≤y∧L+1<x∧jbn y l=true:=by
 simp [jbn,and_assoc]
theorem jci {x y n:Int} {l:List (Int × Int)}:hasB ((x,y) :: l) n=true↔(x≤n∧n≤y)∨hasB l n=true:=by
 simp [hasB]
theorem js9 (n:Int):hasB [] n=false:=rfl
theorem jfc {l m:List (Int × Int)} {n:Int}:hasB (l ++ m) n=true↔hasB l n=true∨hasB m n=true:=by
 simp [hasB,List.any_append]
theorem jnk {x y n:Int}:hasB (addL x y) n=true↔x≤n∧n≤y:=by
 unfold addL
 split
 ·simp [hasB];omega
 ·simp [hasB]
theorem jkh {L n:Int} {l:List (Int × Int)} (h:jbn L l=true) (hn:hasB l n=true):L+1<n:=by
 induction l generalizing L with
 | nil=>simp [hasB] at hn
 | cons a l ih =>
  obtain ⟨x,y⟩:=a
  obtain ⟨h1,h2,h3,h4,h5⟩:=jao.1 h
  rcases jci.1 hn with h' | h'
  ·omega
  ·have:=ih h5 h';omega
theorem jrn {L n:Int} {l:List (Int × Int)} (h:jbn L l=true) (hn:hasB l n=true):-1000000≤n∧n≤1000000:=by
 induction l generalizing L with
 | nil=>simp [hasB] at hn
 | cons a l ih =>
  obtain ⟨x,y⟩:=a
  obtain ⟨h1,h2,h3,h4,h5⟩:=jao.1 h
  rcases jci.1 hn with h' | h'
  ·omega
  ·exact ih h5 h'
theorem jpk {L L':Int} {l:List (Int × Int)} (h:jbn L l=true) (hL:L'≤L):jbn L' l=true:=by
 cases l with
 | nil=>rfl
 | cons a l =>
  obtain ⟨x,y⟩:=a
  obtain ⟨h1,h2,h3,h4,h5⟩:=jao.1 h
  exact jao.2 ⟨h1,h2,h3,by omega,h5⟩
theorem jfl {L:Int} {l:List (Int × Int)} (h:jbn L l=true):yqx l:=by
 induction l generalizing L with
 | nil=>intro r hr;simp at hr
 | cons a l ih =>
  obtain ⟨x,y⟩:=a
  obtain ⟨h1,h2,h3,h4,h5⟩:=jao.1 h
  intro r hr
  rcases List.mem_cons.1 hr with rfl | hr
  ·exact ⟨h1,by omega,by omega,h2⟩
  ·exact ih h5 r hr
theorem jf5 {L L':Int} {a b:List (Int × Int)} (ha:jbn L a=true) (hb:jbn L' b=true) (h:∀ n,hasB a n=hasB b n):a=b:=by
 induction a generalizing b L L' with
 | nil =>
  cases b with
  | nil=>rfl
  | cons r b =>
   obtain ⟨p,q⟩:=r
   obtain ⟨_,_,h3,_,_⟩:=jao.1 hb
   have h1:hasB ((p,q) :: b) p=true:=jci.2 (.inl ⟨by omega,h3⟩)
   rw [← h p] at h1;simp [hasB] at h1
 | cons r a ih =>
  obtain ⟨x,y⟩:=r
  obtain ⟨a1,a2,a3,a4,a5⟩:=jao.1 ha
  cases b with
  | nil =>
   have h1:hasB ((x,y) :: a) x=true:=jci.2 (.inl ⟨by omega,a3⟩)
   rw [h x] at h1;simp [hasB] at h1
  | cons s b =>
   obtain ⟨p,q⟩:=s
   obtain ⟨b1,b2,b3,b4,b5⟩:=jao.1 hb
   have hlo:∀ {x y p q:Int} {a b:List (Int × Int)},jbn q b=true→p≤q→x≤y→(∀ n,hasB ((x,y) :: a) n=hasB ((p,q) :: b) n)→p≤x:=by
    intro x y p q a b hb hpq hxy h
    have h1:hasB ((x,y) :: a) x=true:=jci.2 (.inl ⟨by omega,hxy⟩)
    rw [h x] at h1
    rcases jci.1 h1 with h' | h'
    ·omega
    ·have:=jkh hb h';omega
   have e1:p≤x:=hlo b5 b3 a3 h
   have e2:x≤p:=hlo a5 a3 b3 (fun n=>(h n).symm)
   have hhi:∀ {x y q:Int} {a b:List (Int × Int)},jbn y a=true→x≤y→(∀ n,hasB ((x,y) :: a) n=hasB ((x,q) :: b) n)→q≤y:=by
    intro x y q a b ha hxy h
    by_cases hlt:y<q
    ·have h1:hasB ((x,q) :: b) (y+1)=true:=jci.2 (.inl ⟨by omega,by omega⟩)
     rw [← h (y+1)] at h1
     rcases jci.1 h1 with h' | h'
     ·omega
     ·have:=jkh ha h';omega
    ·omega
   have e3:x=p:=by omega
   subst e3
   have e4:q≤y:=hhi a5 a3 h
   have e5:y≤q:=hhi b5 b3 (fun n=>(h n).symm)
   have e6:y=q:=by omega
   subst e6
   congr 1
   refine ih a5 b5 fun n=>?_
   by_cases hn:n≤y
   ·have f1:hasB a n=false:=by
     cases hh:hasB a n with
     | false=>rfl
     | true=>have:=jkh a5 hh;omega
    have f2:hasB b n=false:=by
     cases hh:hasB b n with
     | false=>rfl
     | true=>have:=jkh b5 hh;omega
    rw [f1,f2]
   ·have:=h n
    simp only [hasB,List.any_cons] at this ⊢
    have hd:decide (n≤y)=false:=by simp;omega
    simpa [hd] using this
theorem jd7 {a b:List (Int × Int)}:∀ {La Lb:Int},jbn La a=true→jbn Lb b=true→jbn (max La Lb) (jbq a b)=true∧∀ n,hasB (jbq a b) n=(hasB a n && hasB b n):=by
 induction a,b using jbq.induct with
 | case1 x xs y ys ih1 ih2 =>
  intro La Lb ha hb
  obtain ⟨x,y'⟩:=x
  obtain ⟨p,q⟩:=y
  rw [jbq]
  obtain ⟨a1,a2,a3,a4,a5⟩:=jao.1 ha
  obtain ⟨b1,b2,b3,b4,b5⟩:=jao.1 hb
  simp only
  by_cases h:y'<q
  ·rw [if_pos h]
   obtain ⟨g,m⟩:=ih1 a5 hb
   refine ⟨?_,fun n=>?_⟩
   ·by_cases hp:p≤y'
    ·rw [show addL (max x p) (min y' q) = [(max x p,min y' q)] from by unfold addL;rw [if_neg (by omega)]]
     exact jao.2 ⟨by omega,by omega,by omega,by omega,jpk g (by omega)⟩
    ·rw [show addL (max x p) (min y' q) = [] from by unfold addL;rw [if_pos (by omega)]]
     exact jpk g (by omega)
   ·rw [Bool.eq_iff_iff,jfc,jnk,m,Bool.and_eq_true,Bool.and_eq_true,jci,jci]
    constructor
    ·rintro (h' | ⟨h1,h2⟩)
     ·exact ⟨.inl (by omega),.inl (by omega)⟩
     ·exact ⟨.inr h1,h2⟩
    ·rintro ⟨h1 | h1,h2⟩
     ·rcases h2 with h2 | h2
      ·exact .inl (by omega)
      ·have:=jkh b5 h2;omega
     ·exact .inr ⟨h1,h2⟩
  ·rw [if_neg h]
   obtain ⟨g,m⟩:=ih2 ha b5
   refine ⟨?_,fun n=>?_⟩
   ·by_cases hp:x≤q
    ·rw [show addL (max x p) (min y' q) = [(max x p,min y' q)] from by unfold addL;rw [if_neg (by omega)]]
     exact jao.2 ⟨by omega,by omega,by omega,by omega,jpk g (by omega)⟩
    ·rw [show addL (max x p) (min y' q) = [] from by unfold addL;rw [if_pos (by omega)]]
     exact jpk g (by omega)
   ·rw [Bool.eq_iff_iff,jfc,jnk,m,Bool.and_eq_true,Bool.and_eq_true,jci,jci]
    constructor
    ·rintro (h' | ⟨h1,h2⟩)
     ·exact ⟨.inl (by omega),.inl (by omega)⟩
     ·exact ⟨h1,.inr h2⟩
    ·rintro ⟨h1,h2 | h2⟩
     ·rcases h1 with h1 | h1
      ·exact .inl (by omega)
      ·have:=jkh a5 h1;omega
     ·exact .inr ⟨h1,h2⟩
 | case2 a b hn =>
  intro La Lb ha hb
  rw [jbq]
  ·refine ⟨rfl,fun n=>?_⟩
   cases a with
   | nil=>simp [hasB]
   | cons r a =>
    cases b with
    | nil=>simp [hasB]
    | cons s b=>exact absurd rfl (hn r a s b rfl)
  ·exact hn
theorem jl1 {a b:List (Int × Int)}:∀ {La Lb:Int},jbn La a=true→jbn Lb b=true→jbn La (jbo a b)=true∧∀ n,hasB (jbo a b) n=(hasB a n && !hasB b n):=by
 induction a,b using jbo.induct with
 | case1 b =>
  intro La Lb ha hb
  rw [jbo];exact ⟨rfl,fun n=>by simp [hasB]⟩
 | case2 x y rs ih =>
  intro La Lb ha hb
  obtain ⟨a1,a2,a3,a4,a5⟩:=jao.1 ha
  obtain ⟨g,m⟩:=ih a5 hb
  rw [jbo,show addL x y = [(x,y)] from by unfold addL;rw [if_neg (by omega)]]
  refine ⟨jao.2 ⟨a1,a2,a3,a4,g⟩,fun n=>?_⟩
  rw [Bool.eq_iff_iff]
  show hasB ((x,y) :: jbo rs []) n=true↔_
  rw [jci,m,js9]
  simp [jci]
 | case3 x y rs p q bs h ih =>
  intro La Lb ha hb
  obtain ⟨a1,a2,a3,a4,a5⟩:=jao.1 ha
  obtain ⟨b1,b2,b3,b4,b5⟩:=jao.1 hb
  rw [jbo,if_pos h]
  refine ⟨?_,fun n=>?_⟩
  ·by_cases hp:x≤p-1
   ·obtain ⟨g,m⟩:=ih (La:=p-1) (jao.2 ⟨by omega,a2,by omega,by omega,a5⟩) b5
    rw [show addL x (p-1) = [(x,p-1)] from by unfold addL;rw [if_neg (by omega)]]
    exact jao.2 ⟨a1,by omega,hp,a4,g⟩
   ·obtain ⟨g,m⟩:=ih (La:=La) (jao.2 ⟨by omega,a2,by omega,by omega,a5⟩) b5
    rw [show addL x (p-1) = [] from by unfold addL;rw [if_pos (by omega)]]
    exact g
  ·obtain ⟨g,m⟩:=ih (La:=La) (jao.2 ⟨by omega,a2,by omega,by omega,a5⟩) b5
   have hb':∀ n,hasB bs n=true→q+1<n:=fun n hn=>jkh b5 hn
   have ha':∀ n,hasB rs n=true→y+1<n:=fun n hn=>jkh a5 hn
   have nb:∀ n,hasB ((p,q) :: bs) n=true↔(p≤n∧n≤q)∨hasB bs n=true:=fun n=>jci
   rw [Bool.eq_iff_iff,jfc,jnk,m,Bool.and_eq_true,Bool.and_eq_true,jci,jci,Bool.not_eq_true',Bool.not_eq_true',← Bool.not_eq_true,← Bool.not_eq_true,nb]
   have h1:=hb' n
   have h2:=ha' n
   constructor
   ·rintro (h' | ⟨h' | h',h''⟩)
    ·exact ⟨.inl (by omega),fun hh=>by rcases hh with hh | hh;omega;have:=h1 hh;omega⟩
    ·exact ⟨.inl (by omega),fun hh=>by rcases hh with hh | hh;omega;exact h'' hh⟩
    ·exact ⟨.inr h',fun hh=>by rcases hh with hh | hh;(have:=h2 h';omega);exact h'' hh⟩
   ·rintro ⟨h' | h',h''⟩
    ·by_cases hp:n≤p-1
     ·exact .inl ⟨h'.1,hp⟩
     ·by_cases hq:n≤q
      ·exact absurd (.inl ⟨by omega,hq⟩) h''
      ·exact .inr ⟨.inl (by omega),fun hh=>h'' (.inr hh)⟩
    ·exact .inr ⟨.inr h',fun hh=>h'' (.inr hh)⟩
 | case4 x y rs p q bs h ih =>
  intro La Lb ha hb
  obtain ⟨a1,a2,a3,a4,a5⟩:=jao.1 ha
  obtain ⟨b1,b2,b3,b4,b5⟩:=jao.1 hb
  rw [jbo,if_neg h]
  obtain ⟨g,m⟩:=ih a5 hb
  refine ⟨?_,fun n=>?_⟩
  ·by_cases hp:x≤min y (p-1)
   ·rw [show addL x (min y (p-1)) = [(x,min y (p-1))] from by unfold addL;rw [if_neg (by omega)]]
    exact jao.2 ⟨a1,by omega,hp,a4,jpk g (by omega)⟩
   ·rw [show addL x (min y (p-1)) = [] from by unfold addL;rw [if_pos (by omega)]]
    exact jpk g (by omega)
  ·have h1:hasB bs n=true→q+1<n:=fun hn=>jkh b5 hn
   have nb:hasB ((p,q) :: bs) n=true↔(p≤n∧n≤q)∨hasB bs n=true:=jci
   rw [Bool.eq_iff_iff,jfc,jnk,m,Bool.and_eq_true,Bool.and_eq_true,jci,Bool.not_eq_true',← Bool.not_eq_true,nb]
   constructor
   ·rintro (h' | ⟨h',h''⟩)
    ·exact ⟨.inl (by omega),fun hh=>by rcases hh with hh | hh;omega;have:=h1 hh;omega⟩
    ·exact ⟨.inr h',h''⟩
   ·rintro ⟨h' | h',h''⟩
    ·by_cases hp:n≤p-1
     ·exact .inl ⟨h'.1,by omega⟩
     ·exact absurd (.inl ⟨by omega,by omega⟩) h''
    ·exact .inr ⟨h',h''⟩
def jqa (L:Int):List (Int × Int)→Int
 | []=>L
 | r :: l=>jqa r.2 l
theorem jkj (L p q:Int) (l:List (Int × Int)):jqa L (l ++ [(p,q)])=q:=by
 induction l generalizing L with
 | nil=>rfl
 | cons a l ih=>exact ih _
theorem jlx {L p q:Int} {l:List (Int × Int)}:jbn L (l ++ [(p,q)])=true↔jbn L l=true ∧ -1000000≤p∧q≤1000000∧p≤q∧jqa L l+1<p:=by
 induction l generalizing L with
 | nil=>rw [List.nil_append,jao];simp [jbn,jqa]
 | cons a l ih =>
  obtain ⟨x,y⟩:=a
  rw [List.cons_append,jao,jao,ih]
  simp only [jqa]
  constructor <;> (rintro ⟨h1,h2⟩;simp_all)
theorem jy3 (r:Int × Int):jc2 [] r = [r]:=rfl
theorem jv0 (l:List (Int × Int)) (p q x y:Int):jc2 (l ++ [(p,q)]) (x,y)=if x≤q+1 then l ++ [(p,max q y)] else l ++ [(p,q)] ++ [(x,y)]:=by
 unfold jc2
 have e:(l ++ [(p,q)])[(l ++ [(p,q)]).length-1]? = some (p,q):=by simp
 rw [e]
 simp only
 split
 ·simp
 ·rfl
def yjq (l:List (Int × Int)):Prop:=∀ r,r∈l → -1000000≤r.1∧r.1≤r.2∧r.2≤1000000
theorem yhm {l:List (Int × Int)}:∀ (out:List (Int × Int)),yjq l→l.Pairwise (fun x y=>x.1≤y.1)→jbv out=true→(∀ i p q,out=i ++ [(p,q)]→∀ r,r∈l→p≤r.1) →
  jbv (l.foldl jc2 out)=true∧∀ n,hasB (l.foldl jc2 out) n=(hasB out n || hasB l n):=by
 induction l with
 | nil=>intro out _ _ h _;exact ⟨h,fun n=>by simp [hasB]⟩
 | cons r l ih =>
  intro out hc hs hg hle
  obtain ⟨x,y⟩:=r
  obtain ⟨c1,c2,c3⟩:=hc (x,y) List.mem_cons_self
  simp only at c1 c2 c3
  have hc':yjq l:=fun r hr=>hc r (List.mem_cons_of_mem _ hr)
  obtain ⟨s1,s2⟩:=List.pairwise_cons.1 hs
  have hn:∀ n,hasB ((x,y) :: l) n=((decide (x≤n) && decide (n≤y)) || hasB l n):=fun n=>by simp [hasB]
  rcases List.eq_nil_or_concat out with rfl | ⟨i,⟨p,q⟩,rfl⟩
  ·have hg':jbv [(x,y)]=true:=jao.2 ⟨c1,c3,c2,by omega,rfl⟩
   obtain ⟨g,m⟩:=ih [(x,y)] hc' s2 hg' (fun i p q e r hr=>by
    have:i = []∧(p,q)=(x,y):=by
     cases i with
     | nil=>simp at e;exact ⟨rfl,by simp [e]⟩
     | cons a i=>simp at e
    obtain ⟨_,e2⟩:=this
    injection e2 with e2 e3;subst e2;exact s1 r hr)
   rw [List.foldl_cons,jy3]
   exact ⟨g,fun n=>by rw [m,hn];simp [hasB]⟩
  ·rw [List.concat_eq_append] at *
   rw [List.foldl_cons,jv0]
   obtain ⟨g0,g1,g2,g3,g4⟩:=jlx.1 hg
   have hpx:p≤x:=hle i p q rfl (x,y) List.mem_cons_self
   by_cases hx:x≤q+1
   ·rw [if_pos hx]
    obtain ⟨g,m⟩:=ih (i ++ [(p,max q y)]) hc' s2 (jlx.2 ⟨g0,g1,by omega,by omega,g4⟩) (fun i' p' q' e r hr=>by
     have e2:=(List.append_inj' e rfl).2
     simp at e2
     have:=s1 r hr
     have:p'≤x:=by omega
     omega)
    refine ⟨g,fun n=>?_⟩
    rw [m,hn,Bool.eq_iff_iff]
    simp only [Bool.or_eq_true,jfc,Bool.and_eq_true,decide_eq_true_eq]
    have e1:hasB [(p,max q y)] n=true↔p≤n∧n≤max q y:=by simp [hasB]
    have e2:hasB [(p,q)] n=true↔p≤n∧n≤q:=by simp [hasB]
    rw [e1,e2]
    constructor
    ·rintro ((h | h) | h)
     ·exact .inl (.inl h)
     ·by_cases hq:n≤q
      ·exact .inl (.inr ⟨h.1,hq⟩)
      ·exact .inr (.inl (by omega))
     ·exact .inr (.inr h)
    ·rintro ((h | h) | (h | h))
     ·exact .inl (.inl h)
     ·exact .inl (.inr (by omega))
     ·exact .inl (.inr (by omega))
     ·exact .inr h
   ·rw [if_neg hx]
    obtain ⟨g,m⟩:=ih (i ++ [(p,q)] ++ [(x,y)]) hc' s2 (jlx.2 ⟨hg,c1,c3,c2,by rw [jkj];omega⟩) (fun i' p' q' e r hr=>by
     have e2:=(List.append_inj' e rfl).2
     simp at e2
     have:=s1 r hr
     have:p'=x:=e2.1.symm
     omega)
    refine ⟨g,fun n=>?_⟩
    rw [m,hn,Bool.eq_iff_iff]
    simp only [Bool.or_eq_true,jfc,Bool.and_eq_true,decide_eq_true_eq]
    have e1:hasB [(x,y)] n=true↔x≤n∧n≤y:=by simp [hasB]
    rw [e1]
    constructor
    ·rintro (((h | h) | h) | h)
     ·exact .inl (.inl h)
     ·exact .inl (.inr h)
     ·exact .inr (.inl h)
     ·exact .inr (.inr h)
    ·rintro ((h | h) | (h | h))
     ·exact .inl (.inl (.inl h))
     ·exact .inl (.inl (.inr h))
     ·exact .inl (.inr h)
     ·exact .inr h
theorem yd3 {l:List (Int × Int)} (hc:yjq l) (hs:l.Pairwise (fun x y=>x.1≤y.1)):jbv (jjb l)=true∧∀ n,hasB (jjb l) n=hasB l n:=by
 obtain ⟨g,m⟩:=yhm [] hc hs rfl (fun i p q e=>by simp at e)
 exact ⟨g,fun n=>by rw [jjb,m];simp [hasB]⟩
theorem jt2 (l:List (Int × Int)):yjq (jkx l):=by
 intro r hr
 simp only [jkx,List.mem_flatMap] at hr
 obtain ⟨a,_,h⟩:=hr
 unfold addL at h
 split at h
 ·simp at h
 ·simp at h;subst h;simp;omega
theorem yjr (l:List (Int × Int)) (n:Int):hasB (jkx l) n=(decide (-1000000≤n) && decide (n≤1000000) && hasB l n):=by
 induction l with
 | nil=>simp [jkx,hasB]
 | cons a l ih =>
  obtain ⟨x,y⟩:=a
  have e:jkx ((x,y) :: l)=addL (max x (-1000000)) (min y 1000000) ++ jkx l:=by simp [jkx]
  rw [e,Bool.eq_iff_iff,jfc,jnk,ih]
  simp only [Bool.and_eq_true,decide_eq_true_eq,jci]
  constructor
  ·rintro (h | h)
   ·exact ⟨by omega,.inl (by omega)⟩
   ·exact ⟨h.1,.inr h.2⟩
  ·rintro ⟨h,h' | h'⟩
   ·exact .inl (by omega)
   ·exact .inr ⟨h,h'⟩
theorem ykh {l m:List (Int × Int)} (h:l.Perm m) (n:Int):hasB l n=hasB m n:=by
 rw [Bool.eq_iff_iff,joj,joj]
 exact ⟨fun ⟨r,h1,h2⟩=>⟨r,h.mem_iff.1 h1,h2⟩,fun ⟨r,h1,h2⟩=>⟨r,h.mem_iff.2 h1,h2⟩⟩
def jeh (l:List (Int × Int)):List (Int × Int):=jjb ((jkx l).mergeSort fun x y=>decide (x.1≤y.1))
theorem jy5 {l l':List (Int × Int)} (hp:l'.Perm (jkx l)) (hs:l'.Pairwise (fun x y=>x.1≤y.1)):jbv (jjb l')=true∧∀ n,hasB (jjb l') n=(decide (-1000000≤n) && decide (n≤1000000) && hasB l n):=by
 obtain ⟨g,m⟩:=yd3 (l:=l') (fun r hr=>jt2 l r (hp.mem_iff.1 hr)) hs
 exact ⟨g,fun n=>by rw [m,ykh hp,yjr]⟩
theorem jc8 (l:List (Int × Int)):jbv (jeh l)=true∧∀ n,hasB (jeh l) n=(decide (-1000000≤n) && decide (n≤1000000) && hasB l n):=by
 refine jy5 (List.mergeSort_perm _ _) ?_
 have:=List.pairwise_mergeSort (le:=fun (x y:Int × Int)=>decide (x.1≤y.1)) (fun a b c h1 h2=>by simp at *;omega) (fun a b=>by simp;omega) (jkx l)
 exact this.imp (by intro a b h;simpa using h)
theorem yo1 {l l':List (Int × Int)} (hp:l'.Perm (jkx l)) (hs:l'.Pairwise (fun x y=>x.1≤y.1)):jjb l'=jeh l :=
 jf5 (jy5 hp hs).1 (jc8 l).1 (fun n=>by rw [(jy5 hp hs).2,(jc8 l).2])
theorem ygu {l:List (Int × Int)} (h:yjq l):hiIn l:=fun r hr=>by have:=h r hr;omega
def cnt (N:Nat) (f:Int→Bool):Nat:=(List.range N).countP fun i:Nat=>f ((i:Int)-1000000)
theorem yso (N:Nat) (f:Int→Bool):cnt N f≤N:=by
 have:=List.countP_le_length (p:=fun i:Nat=>f ((i:Int)-1000000)) (l:=List.range N)
 rw [List.length_range] at this
 exact this
theorem yjy {α:Type} (f g:α→Bool) (l:List α) (h:∀ x,f x=true→g x=true→False):l.countP (fun x=>f x || g x)=l.countP f+l.countP g:=by
 induction l with
 | nil=>rfl
 | cons a l ih =>
  rw [List.countP_cons,List.countP_cons,List.countP_cons,ih]
  have:=h a
  cases hf:f a <;> cases hg:g a <;> simp_all <;> omega
theorem yqg (N:Nat) (f g:Int→Bool) (h:∀ x,f x=true→g x=true→False):cnt N (fun x=>f x || g x)=cnt N f+cnt N g:=yjy _ _ _ (fun _=>h _)
theorem yao (N a b:Nat) (h:a≤b) (hb:b≤N):(List.range N).countP (fun i=>decide (a≤i) && decide (i<b))=b-a:=by
 induction N generalizing b with
 | zero=>simp;omega
 | succ N ih =>
  rw [List.range_succ,List.countP_append,List.countP_cons,List.countP_nil]
  by_cases hbN:b≤N
  ·rw [ih b h hbN,if_neg (by simp;omega)];omega
  ·have:b=N+1:=by omega
   subst this
   by_cases haN:a≤N
   ·have e:(List.range N).countP (fun i=>decide (a≤i) && decide (i<N+1))=(List.range N).countP (fun i=>decide (a≤i) && decide (i<N)):=by
     apply List.countP_congr
     intro x hx
     have:=List.mem_range.1 hx
     simp;omega
    rw [e,ih N haN (Nat.le_refl _),if_pos (by simp [haN])];omega
   ·have e:(List.range N).countP (fun i=>decide (a≤i) && decide (i<N+1))=0:=by
     rw [List.countP_eq_zero]
     intro x hx
     have:=List.mem_range.1 hx
     simp;omega
    rw [e,if_neg (by simp;omega)];omega
theorem yjw (N:Nat) (hN:N=2000001) (x y:Int) (h1:-1000000≤x) (h2:x≤y) (h3:y≤1000000):(cnt N (fun n=>decide (x≤n) && decide (n≤y)):Int)=y-x+1:=by
 have:=yao N (x+1000000).toNat (y+1000001).toNat (by omega) (by omega)
 unfold cnt
 have e:(List.range N).countP (fun i:Nat=>decide (x≤(i:Int)-1000000) && decide ((i:Int)-1000000≤y))=(List.range N).countP (fun i=>decide ((x+1000000).toNat≤i) && decide (i<(y+1000001).toNat)):=by
  apply List.countP_congr
  intro i _
  simp;omega
 rw [e,this];omega
def sumL (l:List (Int × Int)):Int:=(l.map fun r=>r.2-r.1+1).sum
theorem ycn (x y:Int) (l:List (Int × Int)):sumL ((x,y) :: l)=(y-x+1)+sumL l:=by simp [sumL]
theorem jtn (N:Nat) (hN:N=2000001) {L:Int} {l:List (Int × Int)} (h:jbn L l=true):sumL l=cnt N (hasB l):=by
 induction l generalizing L with
 | nil =>
  have:cnt N (hasB [])=0:=by unfold cnt;rw [List.countP_eq_zero];intro x _;simp [hasB]
  rw [this];rfl
 | cons a l ih =>
  obtain ⟨x,y⟩:=a
  obtain ⟨h1,h2,h3,h4,h5⟩:=jao.1 h
  have e2:hasB ((x,y) :: l)=fun n=>(decide (x≤n) && decide (n≤y)) || hasB l n:=by funext n;simp [hasB]
  rw [ycn,e2,yqg N _ _ (fun n g1 g2=>by simp at g1;have:=jkh h5 g2;omega),ih h5]
  have:=yjw N hN x y h1 h3 h2
  omega
theorem yke {L:Int} {l:List (Int × Int)} (h:jbn L l=true) (k:Nat):jbn L (l.take k)=true:=by
 induction l generalizing L k with
 | nil=>simp [jbn]
 | cons a l ih =>
  obtain ⟨x,y⟩:=a
  obtain ⟨h1,h2,h3,h4,h5⟩:=jao.1 h
  cases k with
  | zero=>rfl
  | succ k=>exact jao.2 ⟨h1,h2,h3,h4,ih h5 k⟩
theorem jiy {l:List (Int × Int)} (h:jbv l=true) (k:Nat):0≤sumL (l.take k)∧sumL (l.take k)≤2000001:=by
 obtain ⟨N,hN⟩:∃ N,N=2000001:=⟨_,rfl⟩
 have:=jtn N hN (yke (k:=k) h)
 have:=yso N (hasB (l.take k))
 omega
theorem yco {a b:List (Int × Int)} (ha:jbv a=true) (hb:jbv b=true):sumL (jbq a b)+sumL (jbo a b)=sumL a:=by
 obtain ⟨N,hN⟩:∃ N,N=2000001:=⟨_,rfl⟩
 obtain ⟨g1,m1⟩:=jd7 ha hb
 obtain ⟨g2,m2⟩:=jl1 ha hb
 have e:hasB a=fun n=>hasB (jbq a b) n || hasB (jbo a b) n:=by
  funext n;rw [m1,m2];cases hasB a n <;> cases hasB b n <;> rfl
 have:=yqg N (hasB (jbq a b)) (hasB (jbo a b)) (fun n h1 h2=>by rw [m1,Bool.and_eq_true] at h1;rw [m2,h1.2] at h2;simp at h2)
 rw [jtn N hN g1,jtn N hN g2,jtn N hN ha,e];omega
theorem jub {L:Int} {l:List (Int × Int)} (h:jbn L l=true):(l.length:Int)≤sumL l:=by
 induction l generalizing L with
 | nil=>simp [sumL]
 | cons a l ih =>
  obtain ⟨x,y⟩:=a
  obtain ⟨h1,h2,h3,h4,h5⟩:=jao.1 h
  have:=ih h5
  rw [ycn,List.length_cons];omega
theorem jdn {l:List (Int × Int)} (h:jbv l=true):l.length≤2000001:=by
 have h1:=jub h
 have h2:=jiy h l.length
 rw [List.take_length] at h2
 omega
def jcf (b:List (List (Int × Int))):Bool:=b.all fun s=>decide (0<s.length) && jbv s
def jan (b:List (List (Int × Int))) (n:Int):Bool:=decide ((b.length:Int)=n) && decide (n≤3) && jcf b
def jaj:List (List (Int × Int))→List Int→Bool
 | [],[]=>true
 | s :: b,n :: i=>hasB s n && jaj b i
 | _,_=>false
def jc4:List (List (Int × Int))→Int
 | []=>1
 | s :: b=>sumL s*jc4 b
def jjo (a b:List (List (Int × Int))):Bool:=jan a a.length && jan b a.length
def jbe (a b:List (List (Int × Int))):List (List (Int × Int)):=List.zipWith jbq a b
def jff (a:List (List (Int × Int))):Bool:=a.all fun s=>decide (0<s.length)
def jcy (a b:List (List (Int × Int))):Bool:=jjo a b && jff (jbe a b)
def jdh (a b:List (List (Int × Int))):List (List (Int × Int)):=if jcy a b then jbe a b else []
def jjt (p:List (List (Int × Int))):List (List (Int × Int))→List (List (Int × Int))→List (List (List (Int × Int)))
 | s :: a,t :: b=>(if (jbo s t).length=0 then [] else [p ++ jbo s t :: a]) ++ jjt (p ++ [jbq s t]) a b
 | _,_=>[]
def ja4 (a b:List (List (Int × Int))):List (List (List (Int × Int))) :=
 if jjo a b then (if jff (jbe a b) then jjt [] a b else [a]) else []
def jpu (a:List (List (Int × Int))) (l:List (List (List (Int × Int)))):List (List (List (Int × Int))) :=
 if jan a a.length then l.foldl (fun r b=>if jan b a.length then r.flatMap (fun x=>ja4 x b) else r) [a] else []
def jb7 (b:List (List (Int × Int))):List Int:=b.filterMap fun s=>s.head?.map (·.1)
theorem jdu {s:List (Int × Int)} {b:List (List (Int × Int))}:jcf (s :: b)=true↔(0<s.length∧jbv s=true)∧jcf b=true:=by simp [jcf]
theorem jlc {a b:List (List (Int × Int))}:jcf (a ++ b)=true↔jcf a=true∧jcf b=true:=by simp [jcf,List.all_append]
theorem jrl {s:List (Int × Int)} {b:List (List (Int × Int))}:jff (s :: b)=true↔0<s.length∧jff b=true:=by simp [jff]
theorem jae {b:List (List (Int × Int))} {n:Int}:jan b n=true↔((b.length:Int)=n∧n≤3)∧jcf b=true:=by simp [jan]
theorem jcu {b:List (List (Int × Int))} {n:Int} (h:jan b n=true):jan b b.length=true:=by
 rw [jae] at h ⊢
 exact ⟨⟨rfl,by omega⟩,h.2⟩
theorem jdo {b:List (List (Int × Int))}:∀ {i:List Int},jaj b i=true→i.length=b.length:=by
 induction b with
 | nil=>intro i h;cases i with
  | nil=>rfl
  | cons=>simp [jaj] at h
 | cons s b ih=>intro i h;cases i with
  | nil=>simp [jaj] at h
  | cons n i =>
   simp [jaj] at h
   simp [ih h.2]
theorem jmm {p b:List (List (Int × Int))}:∀ {i:List Int},jaj (p ++ b) i=(jaj p (i.take p.length) && jaj b (i.drop p.length)):=by
 induction p with
 | nil=>intro i;simp [jaj]
 | cons s p ih=>intro i;cases i with
  | nil=>simp [jaj]
  | cons n i=>simp [jaj,ih,Bool.and_assoc]
theorem ym6 {s:List (Int × Int)} (h:jbv s=true):0≤sumL s∧sumL s≤2000001:=by
 have:=jiy h s.length
 rwa [List.take_length] at this
theorem jnz (a b:List (List (Int × Int))):jc4 (a ++ b)=jc4 a*jc4 b:=by
 induction a with
 | nil=>simp [jc4]
 | cons s a ih=>simp [jc4,ih,Int.mul_assoc]
theorem jso {b:List (List (Int × Int))} (h:∀ s,s∈b→jbv s=true):0≤jc4 b:=by
 induction b with
 | nil=>simp [jc4]
 | cons s b ih =>
  exact Int.mul_nonneg (ym6 (h s (by simp))).1 (ih fun t ht=>h t (by simp [ht]))
theorem jma {b:List (List (Int × Int))} (h:jcf b=true):∀ s,s∈b→jbv s=true:=by
 intro s hs
 simp [jcf] at h
 exact (h s hs).2
theorem jr4 {b:List (List (Int × Int))} (h:jcf b=true) (k:Nat):jcf (b.take k)=true:=by
 have:jcf (b.take k ++ b.drop k)=true:=by rw [List.take_append_drop];exact h
 exact (jlc.1 this).1
theorem yid {b:List (List (Int × Int))} (h:jcf b=true) (k:Nat):jcf (b.drop k)=true:=by
 have:jcf (b.take k ++ b.drop k)=true:=by rw [List.take_append_drop];exact h
 exact (jlc.1 this).2
theorem jrp {a b:List (List (Int × Int))} (ha:jcf a=true) (hb:jcf b=true):∀ s,s∈jbe a b→jbv s=true:=by
 induction a generalizing b with
 | nil=>intro s hs;simp [jbe] at hs
 | cons s a ih =>
  cases b with
  | nil=>intro s hs;simp [jbe] at hs
  | cons t b =>
   rw [jdu] at ha hb
   intro x hx
   simp only [jbe,List.zipWith_cons_cons,List.mem_cons] at hx
   rcases hx with rfl | hx
   ·have:=(jd7 (La:=-1000002) (Lb:=-1000002) ha.1.2 hb.1.2).1
    rwa [Int.max_self] at this
   ·exact ih ha.2 hb.2 x hx
theorem jl0 {a b:List (List (Int × Int))} (ha:jcf a=true) (hb:jcf b=true) (hf:jff (jbe a b)=true):jcf (jbe a b)=true:=by
 simp only [jcf,List.all_eq_true,Bool.and_eq_true,decide_eq_true_eq]
 intro s hs
 simp [jff] at hf
 exact ⟨hf s hs,jrp ha hb s hs⟩
theorem ykr {a b:List (List (Int × Int))} (ha:jcf a=true) (hb:jcf b=true) (hl:a.length=b.length):∀ {i:List Int},jaj (jbe a b) i=(jaj a i && jaj b i):=by
 induction a generalizing b with
 | nil =>
  cases b with
  | nil=>intro i;cases i <;> simp [jbe,jaj]
  | cons=>simp at hl
 | cons s a ih =>
  cases b with
  | nil=>simp at hl
  | cons t b =>
   rw [jdu] at ha hb
   intro i
   cases i with
   | nil=>simp [jbe,jaj]
   | cons n i =>
    have h1:=(jd7 (La:=-1000002) (Lb:=-1000002) ha.1.2 hb.1.2).2 n
    have h2:=ih ha.2 hb.2 (by simpa using hl) (i:=i)
    simp only [jbe] at h2
    simp only [jbe,List.zipWith_cons_cons,jaj,h1,h2]
    cases hasB s n <;> cases hasB t n <;> cases jaj a i <;> cases jaj b i <;> rfl
theorem yaw {b:List (List (Int × Int))} (h:jff b=false):∀ {i:List Int},jaj b i=false:=by
 induction b with
 | nil=>simp [jff] at h
 | cons s b ih =>
  intro i
  cases i with
  | nil=>rfl
  | cons n i =>
   simp only [jaj]
   by_cases hs:0<s.length
   ·have:jff b=false:=by
     cases hb:jff b
     ·rfl
     ·have:=jrl.2 ⟨hs,hb⟩;rw [this] at h;cases h
    rw [ih this,Bool.and_false]
   ·have:s = []:=List.length_eq_zero_iff.1 (by omega)
    subst this
    rw [js9,Bool.false_and]
def bit (b:Bool):Nat:=if b then 1 else 0
def jde (l:List (List (List (Int × Int)))) (i:List Int):Nat:=l.countP fun x=>jaj x i
def jbz (l:List (List (List (Int × Int)))):Int:=(l.map jc4).sum
theorem jmh (l m:List (List (List (Int × Int)))) (i:List Int):jde (l ++ m) i=jde l i+jde m i:=List.countP_append
theorem jjy (l m:List (List (List (Int × Int)))):jbz (l ++ m)=jbz l+jbz m:=by simp [jbz]
theorem jup {s t:List (Int × Int)} (hs:jbv s=true) (ht:jbv t=true):jbv (jbo s t)=true∧∀ n,hasB (jbo s t) n=(hasB s n && !hasB t n) :=
 jl1 (La:=-1000002) (Lb:=-1000002) hs ht
theorem yhi {a:List (List (Int × Int))}:∀ {p b:List (List (Int × Int))},jcf p=true→jcf a=true→jcf b=true→jff (jbe a b)=true →
  ∀ x,x∈jjt p a b→x.length=p.length+a.length∧jcf x=true:=by
 induction a with
 | nil=>intro p b _ _ _ _ x hx;simp [jjt] at hx
 | cons s a ih =>
  intro p b hp ha hb hf x hx
  cases b with
  | nil=>simp [jjt] at hx
  | cons t b =>
   rw [jdu] at ha hb
   simp only [jbe,List.zipWith_cons_cons] at hf
   rw [jrl] at hf
   simp only [jjt,List.mem_append] at hx
   rcases hx with hx | hx
   ·split at hx
    ·simp at hx
    ·rename_i h0
     simp at hx
     subst hx
     refine ⟨by simp,?_⟩
     rw [jlc,jdu]
     exact ⟨hp,⟨by omega,(jup ha.1.2 hb.1.2).1⟩,ha.2⟩
   ·have hg:=(jd7 (La:=-1000002) (Lb:=-1000002) ha.1.2 hb.1.2).1
    rw [Int.max_self] at hg
    obtain ⟨h1,h2⟩:=ih (p:=p ++ [jbq s t]) (by rw [jlc,jdu];exact ⟨hp,⟨hf.1,hg⟩,rfl⟩) ha.2 hb.2 hf.2 x hx
    exact ⟨by rw [h1];simp;omega,h2⟩
theorem ykw {a:List (List (Int × Int))}:∀ {p b:List (List (Int × Int))},jcf a=true→jcf b=true→a.length=b.length →
  ∀ i,jde (jjt p a b) i=bit (jaj (p ++ a) i && !jaj b (i.drop p.length)):=by
 induction a with
 | nil =>
  intro p b _ _ hl i
  cases b with
  | nil =>
   simp only [jjt,jde,List.countP_nil,jmm]
   cases hd:jaj [] (i.drop p.length) <;> simp [bit]
  | cons=>simp at hl
 | cons s a ih =>
  intro p b ha hb hl i
  cases b with
  | nil=>simp at hl
  | cons t b =>
   rw [jdu] at ha hb
   simp only [jjt,jmh]
   rw [ih ha.2 hb.2 (by simpa using hl)]
   have hF:jde (if (jbo s t).length=0 then [] else [p ++ jbo s t :: a]) i=bit (jaj (p ++ jbo s t :: a) i):=by
    by_cases h0:(jbo s t).length=0
    ·have e:jbo s t = []:=List.length_eq_zero_iff.1 h0
     have:jaj (p ++ jbo s t :: a) i=false:=by
      rw [e,jmm]
      cases i.drop p.length with
      | nil=>simp [jaj]
      | cons n r=>simp [jaj,js9]
     rw [if_pos h0,this];rfl
    ·rw [if_neg h0]
     simp only [jde,List.countP_cons,List.countP_nil,bit]
     cases jaj (p ++ jbo s t :: a) i <;> simp
   rw [hF]
   simp only [jmm,List.length_append,List.length_cons,List.length_nil,← List.drop_drop,Nat.zero_add]
   have et:(List.take (p.length+1) i).drop p.length=(i.drop p.length).take 1:=by rw [List.drop_take];congr 1;omega
   have ett:(List.take (p.length+1) i).take p.length=i.take p.length:=by rw [List.take_take];congr 1;omega
   rw [et,ett]
   cases i.drop p.length with
   | nil=>simp [jaj,bit]
   | cons n r =>
    have h1:=(jd7 (La:=-1000002) (Lb:=-1000002) ha.1.2 hb.1.2).2 n
    have h2:=(jup ha.1.2 hb.1.2).2 n
    simp only [List.take_succ_cons,List.take_zero,List.drop_succ_cons,List.drop_zero,jaj,h1,h2]
    cases jaj p (i.take p.length) <;> cases hasB s n <;> cases hasB t n <;> cases jaj a r <;> cases jaj b r <;> rfl
theorem ykx {a:List (List (Int × Int))}:∀ {p b:List (List (Int × Int))},jcf a=true→jcf b=true→a.length=b.length →
  jbz (jjt p a b)+jc4 p*jc4 (jbe a b)=jc4 p*jc4 a:=by
 induction a with
 | nil=>intro p b _ _ hl;simp [jjt,jbz,jbe]
 | cons s a ih =>
  intro p b ha hb hl
  cases b with
  | nil=>simp at hl
  | cons t b =>
   rw [jdu] at ha hb
   simp only [jjt,jjy]
   have h1:=ih (p:=p ++ [jbq s t]) ha.2 hb.2 (by simpa using hl)
   have h2:=yco ha.1.2 hb.1.2
   have hF:jbz (if (jbo s t).length=0 then [] else [p ++ jbo s t :: a])=jc4 p*(sumL (jbo s t)*jc4 a):=by
    by_cases h0:(jbo s t).length=0
    ·have e:jbo s t = []:=List.length_eq_zero_iff.1 h0
     rw [if_pos h0,e]
     simp [jbz,sumL]
    ·rw [if_neg h0]
     simp [jbz,jnz,jc4]
   rw [hF]
   simp only [jnz,jc4,Int.mul_one,jbe,List.zipWith_cons_cons] at h1 ⊢
   rw [← h2,Int.add_mul,Int.mul_add,← Int.mul_assoc (jc4 p) (sumL (jbq s t)) (jc4 a),← h1]
   simp only [Int.mul_assoc]
   omega
theorem jfk {a b:List (List (Int × Int))}:jjo a b=true↔jan a a.length=true∧jan b a.length=true:=by simp [jjo]
theorem jk5 {a b x:List (List (Int × Int))} (hx:x∈ja4 a b):jan x a.length=true:=by
 unfold ja4 at hx
 split at hx
 ·rename_i h
  rw [jfk] at h
  obtain ⟨hga,hgb⟩:=h
  have ha:=jae.1 hga
  have hb:=jae.1 hgb
  split at hx
  ·rename_i hf
   obtain ⟨h1,h2⟩:=yhi (p:=[]) rfl ha.2 hb.2 hf x hx
   rw [jae]
   exact ⟨⟨by simp [h1],ha.1.2⟩,h2⟩
  ·simp at hx;subst hx;exact hga
 ·simp at hx
theorem jpl {a b:List (List (Int × Int))} (h:jjo a b=true) (i:List Int):jde (ja4 a b) i=bit (jaj a i && !jaj b i):=by
 unfold ja4
 rw [if_pos h]
 rw [jfk] at h
 obtain ⟨hga,hgb⟩:=h
 have ha:=jae.1 hga
 have hb:=jae.1 hgb
 have hl:a.length=b.length:=by omega
 by_cases hf:jff (jbe a b)=true
 ·rw [if_pos hf,ykw ha.2 hb.2 hl]
  simp
 ·rw [if_neg hf]
  have h1:=ykr ha.2 hb.2 hl (i:=i)
  rw [yaw (by simpa using hf)] at h1
  simp only [jde,List.countP_cons,List.countP_nil,bit]
  clear ha hb hga hgb hf hl
  cases h2:jaj a i <;> cases h3:jaj b i
  ·rfl
  ·rfl
  ·rfl
  ·rw [h2,h3] at h1;cases h1
theorem juo {a b:List (List (Int × Int))} (h:jjo a b=true):jbz (ja4 a b)+(if jcy a b then jc4 (jbe a b) else 0)=jc4 a:=by
 unfold ja4 jcy
 rw [if_pos h,h,Bool.true_and]
 rw [jfk] at h
 obtain ⟨hga,hgb⟩:=h
 have ha:=jae.1 hga
 have hb:=jae.1 hgb
 have hl:a.length=b.length:=by omega
 by_cases hf:jff (jbe a b)=true
 ·rw [if_pos hf,if_pos hf]
  have:=ykx (p:=[]) ha.2 hb.2 hl
  simpa [jc4] using this
 ·rw [if_neg hf,if_neg hf]
  simp [jbz]
theorem ybj (a:List (List (Int × Int))):∀ (p b:List (List (Int × Int))),(jjt p a b).length≤a.length:=by
 induction a with
 | nil=>intro p b;simp [jjt]
 | cons s a ih =>
  intro p b
  cases b with
  | nil=>simp [jjt]
  | cons t b =>
   have:=ih (p ++ [jbq s t]) b
   simp only [jjt,List.length_append,List.length_cons]
   split <;> simp <;> omega
theorem jpc (a b:List (List (Int × Int))):(ja4 a b).length≤3:=by
 unfold ja4
 split
 ·rename_i h
  have:=jae.1 (jfk.1 h).1
  split
  ·have:=ybj a [] b
   omega
  ·simp
 ·simp
def jdq (l:List (List (List (Int × Int)))) (b:List (List (Int × Int))):List (List (List (Int × Int))):=l.flatMap fun x=>ja4 x b
theorem jvv (l m:List (List (List (Int × Int)))) (b:List (List (Int × Int))):jdq (l ++ m) b=jdq l b ++ jdq m b:=by simp [jdq]
theorem yat {l:List (List (List (Int × Int)))} {k:Nat} {x:List (List (Int × Int))} (h:l[k]? = some x) (b:List (List (Int × Int))):jdq (l.take (k+1)) b=jdq (l.take k) b ++ ja4 x b:=by
 rw [jai h,jvv];simp [jdq]
theorem jo8 (l:List (List (List (Int × Int)))) (b:List (List (Int × Int))):(jdq l b).length≤3*l.length:=by
 induction l with
 | nil=>simp [jdq]
 | cons x l ih =>
  have:=jpc x b
  simp only [jdq,List.flatMap_cons,List.length_append,List.length_cons] at ih ⊢
  omega
theorem yas {l:List (List (List (Int × Int)))} {b x:List (List (Int × Int))} {n:Int} (hl:∀ y,y∈l→jan y n=true) (hx:x∈jdq l b):jan x n=true:=by
 simp only [jdq,List.mem_flatMap] at hx
 obtain ⟨y,hy,hx⟩:=hx
 have h1:=(jae.1 (hl y hy)).1.1
 have:=jk5 hx
 rwa [h1] at this
theorem ydh {l:List (List (List (Int × Int)))} {b:List (List (Int × Int))} {n:Int} (hl:∀ y,y∈l→jan y n=true) (hb:jan b n=true) (i:List Int):jde (jdq l b) i=if jaj b i then 0 else jde l i:=by
 induction l with
 | nil=>simp [jdq,jde]
 | cons x l ih =>
  have hx:=hl x (by simp)
  have h1:=(jae.1 hx).1.1
  have ha:jjo x b=true:=jfk.2 ⟨jcu hx,by rw [h1];exact hb⟩
  have h2:=ih fun y hy=>hl y (by simp [hy])
  have e:jdq (x :: l) b=ja4 x b ++ jdq l b:=by simp [jdq]
  rw [e,jmh,h2,jpl ha]
  have e2:jde (x :: l) i=bit (jaj x i)+jde l i:=by
   simp only [jde,List.countP_cons,bit];omega
  rw [e2]
  cases jaj b i <;> cases jaj x i <;> simp [bit]
theorem ydi {l:List (List (List (Int × Int)))} {b:List (List (Int × Int))} {n:Int} (hl:∀ y,y∈l→jan y n=true) (hb:jan b n=true):jbz (jdq l b)≤jbz l:=by
 induction l with
 | nil=>simp [jdq]
 | cons x l ih =>
  have hx:=hl x (by simp)
  have h1:=(jae.1 hx).1.1
  have ha:jjo x b=true:=jfk.2 ⟨jcu hx,by rw [h1];exact hb⟩
  have h2:=ih fun y hy=>hl y (by simp [hy])
  have e:jdq (x :: l) b=ja4 x b ++ jdq l b:=by simp [jdq]
  have h3:=juo ha
  have h4:0≤(if jcy x b then jc4 (jbe x b) else 0):=by
   split
   ·exact jso (jrp (jae.1 hx).2 (jae.1 hb).2)
   ·omega
  have e2:jbz (x :: l)=jc4 x+jbz l:=by simp [jbz]
  rw [e,jjy,e2]
  omega
def jqp (n:Int) (r:List (List (List (Int × Int)))) (b:List (List (Int × Int))):List (List (List (Int × Int))):=if jan b n then jdq r b else r
def jiw (a:List (List (Int × Int))) (l:List (List (List (Int × Int)))):List (List (List (Int × Int))):=l.foldl (jqp a.length) [a]
theorem jl9 (a:List (List (Int × Int))) (l:List (List (List (Int × Int)))):jpu a l=if jan a a.length then jiw a l else []:=rfl
theorem jxv {a:List (List (Int × Int))} {l:List (List (List (Int × Int)))} {k:Nat} {b:List (List (Int × Int))} (h:l[k]? = some b):jiw a (l.take (k+1))=jqp a.length (jiw a (l.take k)) b:=by
 unfold jiw
 rw [jai h,List.foldl_append]
 rfl
def jjp (n:Int) (l:List (List (List (Int × Int)))) (i:List Int):Bool:=l.any fun b=>jan b n && jaj b i
theorem jqo {a:List (List (Int × Int))} (ha:jan a a.length=true) (l:List (List (List (Int × Int)))):∀ k,k≤l.length →
  (∀ x,x∈jiw a (l.take k)→jan x a.length=true)∧(jiw a (l.take k)).length≤3 ^ k∧jbz (jiw a (l.take k))≤jc4 a ∧
  ∀ i,jde (jiw a (l.take k)) i=bit (jaj a i && !jjp a.length (l.take k) i):=by
 intro k
 induction k with
 | zero =>
  intro _
  simp only [List.take_zero,jiw,List.foldl_nil]
  refine ⟨fun x hx=>by simp at hx;subst hx;exact ha,by simp,by simp [jbz],fun i=>?_⟩
  simp only [jde,List.countP_cons,List.countP_nil,jjp,bit]
  cases jaj a i <;> simp
 | succ k ih =>
  intro hk
  obtain ⟨h1,h2,h3,h4⟩:=ih (by omega)
  have hb:l[k]? = some l[k]:=List.getElem?_eq_getElem (by omega)
  generalize l[k]=b at hb
  rw [jxv hb]
  unfold jqp
  have hin:∀ i,jjp a.length (l.take (k+1)) i=(jjp a.length (l.take k) i || (jan b a.length && jaj b i)):=by
   intro i;unfold jjp;rw [jai hb,List.any_append];simp
  by_cases hg:jan b a.length=true
  ·rw [if_pos hg]
   refine ⟨fun x hx=>yas h1 hx,?_,Int.le_trans (ydi h1 hg) h3,fun i=>?_⟩
   ·have h5:=jo8 (jiw a (l.take k)) b
    have h6:=Nat.pow_succ 3 k
    omega
   ·rw [ydh h1 hg,h4,hin,hg]
    cases jaj b i <;> cases jaj a i <;> cases jjp a.length (l.take k) i <;> rfl
  ·rw [if_neg hg]
   refine ⟨h1,?_,h3,fun i=>?_⟩
   ·have h6:=Nat.pow_succ 3 k
    omega
   ·rw [h4,hin]
    have:jan b a.length=false:=by simpa using hg
    rw [this];simp
theorem jl7 {b:List (List (Int × Int))} (h:jcf b=true):jaj b (jb7 b)=true:=by
 induction b with
 | nil=>rfl
 | cons s b ih =>
  rw [jdu] at h
  cases s with
  | nil=>simp at h
  | cons r s =>
   have e:jb7 ((r :: s) :: b)=r.1 :: jb7 b:=by simp [jb7]
   rw [e]
   simp only [jaj,ih h.2,Bool.and_true]
   obtain ⟨x,y⟩:=r
   have:=jao.1 h.1.2
   rw [jci]
   exact .inl ⟨by simp,by simp;omega⟩
def ja5 (b:UInt8):Bool:=decide (97≤b.toNat) && decide (b.toNat≤122)
def jdr (s:ByteArray):Bool:=decide (0<s.size) && decide (s.size≤8) && s.data.toList.all ja5
def jap (a b:ByteArray):Bool:=a.toList == b.toList
def jly (seen:List ByteArray):List ByteArray→Bool
 | []=>true
 | s :: l=>(jdr s && !seen.any (jap s)) && jly (seen ++ [s]) l
def jfs (l:List ByteArray):Bool:=decide (0<l.length) && decide (l.length≤3) && jly [] l
def jcl (c:CellD):Bool:=!(c.1 && decide (c.2.length=0)) && decide (c.2.length≤4) && jbv c.2
def jfb (n:Int) (r:RuleD):Bool:=decide (-1000000≤r.2) && decide (r.2≤1000000) && decide ((r.1.length:Int)=n) && r.1.all jcl
def jgv (n:Int) (l:List RuleD):Bool:=decide (0<l.length) && decide (l.length≤6) && l.all (jfb n)
def jbd (t:TabD):Bool:=jdr t.name && decide (1≤t.pol) && decide (t.pol≤7) && jfs t.ins && jgv t.ins.length t.rules
def je8 (c:CellD) (n:Int):Bool:=decide (c.2.length=0) || (hasB c.2 n != c.1)
def jbw:List CellD→List Int→Bool
 | [],[]=>true
 | c :: cs,n :: l=>je8 c n && jbw cs l
 | _,_=>false
def idxL (k:Nat) (l:List RuleD) (i:List Int):List Int :=
 match l with
 | []=>[]
 | r :: l=>(if jbw r.1 i then [(k:Int)] else []) ++ idxL (k+1) l i
def jbl (l:List RuleD) (i:List Int):List Int:=(l.filter fun r=>jbw r.1 i).map (·.2)
def jbf (p a b:Int):Bool:=decide (p=1) || (decide (p=2) && decide (a≠b))
def jax (p:Int):List Int→Bool
 | []=>false
 | a :: l=>l.any (jbf p a)
def minL:List Int→Int
 | []=>0
 | a :: l=>l.foldl min a
def maxL:List Int→Int
 | []=>0
 | a :: l=>l.foldl max a
def jcc (p:Int) (l:List Int):Int:=if p=4 then minL l else if p=5 then maxL l else if p=6 then l.sum else if p=7 then l.length else l.headD 0
def jgc (p:Int) (o:List Int):Int × Bool × Int :=
 if o.length=0∧p≠7 then (0,false,0) else if jax p o then (0,false,4) else (jcc p o,true,0)
def jb5 (t:TabD) (i:List Int):Int × Bool × Int :=
 if jbd t=true∧i.length=t.ins.length then jgc t.pol (jbl t.rules i) else (0,false,1)
def jgq (t:TabD):Int × Int :=
 if jbd t then (if t.pol=7 then (0,t.rules.length) else if t.pol=6 then ((t.rules.map fun r=>min r.2 0).sum,(t.rules.map fun r=>max r.2 0).sum) else (minL (t.rules.map (·.2)),maxL (t.rules.map (·.2)))) else (0,0)
theorem yfk {l:List ByteArray} {k:Nat} {s:ByteArray} (h:l[k]? = some s):jly (l.take k) (l.drop k)=((jdr s && !(l.take k).any (jap s)) && jly (l.take (k+1)) (l.drop (k+1))):=by
 rw [jdi h,jai h];rfl
theorem jsc {α:Type} {f:α→Bool} {l:List α} {k:Nat} {x:α} (h:l[k]? = some x):(l.drop k).all f=(f x && (l.drop (k+1)).all f):=by
 rw [jdi h];rfl
theorem ybr {cs:List CellD} {l:List Int} {k:Nat} {c:CellD} {n:Int} (h:cs[k]? = some c) (h':l[k]? = some n):jbw (cs.drop k) (l.drop k)=(je8 c n && jbw (cs.drop (k+1)) (l.drop (k+1))):=by
 rw [jdi h,jdi h'];rfl
theorem jyz {cs:List CellD}:∀ {l:List Int},jbw cs l=true→cs.length=l.length:=by
 induction cs with
 | nil=>intro l h;cases l <;> simp_all [jbw]
 | cons c cs ih =>
  intro l h
  cases l with
  | nil=>simp [jbw] at h
  | cons n l=>simp [jbw] at h;simp [ih h.2]
theorem ybs {cs:List CellD} {l:List Int} (h:¬ cs.length=l.length):jbw cs l=false:=by
 cases hm:jbw cs l
 ·rfl
 ·exact absurd (jyz hm) h
theorem yds (a b:List RuleD) (i:List Int):∀ k,idxL k (a ++ b) i=idxL k a i ++ idxL (k+a.length) b i:=by
 induction a with
 | nil=>intro k;simp [idxL]
 | cons r a ih=>intro k;simp only [List.cons_append,idxL,ih,List.append_assoc,List.length_cons];rw [show k+(a.length+1)=k+1+a.length from by omega]
theorem ybc {l:List RuleD} {k:Nat} {r:RuleD} (h:l[k]? = some r) (i:List Int):idxL 0 (l.take (k+1)) i=idxL 0 (l.take k) i ++ (if jbw r.1 i then [(k:Int)] else []):=by
 have hk:=(List.getElem?_eq_some_iff.1 h).1
 rw [jai h,yds,List.length_take,Nat.min_eq_left (by omega)]
 simp [idxL]
theorem jmn (l:List RuleD) (i:List Int):∀ k,(idxL k l i).length≤l.length:=by
 induction l with
 | nil=>intro k;simp [idxL]
 | cons r l ih=>intro k;have:=ih (k+1);simp only [idxL,List.length_append,List.length_cons];split <;> simp <;> omega
theorem ybb (l:List RuleD) (i:List Int):∀ (pre:List RuleD),(∀ j,j∈idxL pre.length l i→∃ n:Nat,j=(n:Int)∧n<(pre ++ l).length)∧(idxL pre.length l i).map (fun j=>((pre ++ l)[j.toNat]?.map (·.2)).getD 0)=jbl l i:=by
 induction l with
 | nil=>intro pre;simp [idxL,jbl]
 | cons r l ih =>
  intro pre
  have h:=ih (pre ++ [r])
  rw [List.length_append,List.length_singleton,List.append_assoc,List.singleton_append] at h
  obtain ⟨h1,h2⟩:=h
  cases hm:jbw r.1 i
  ·simp only [idxL,hm,Bool.false_eq_true,if_false,List.nil_append]
   exact ⟨h1,by rw [h2];simp [jbl,hm]⟩
  ·simp only [idxL,hm,if_true,List.singleton_append,List.map_cons,h2]
   refine ⟨fun j hj=>?_,?_⟩
   ·rcases List.mem_cons.1 hj with rfl | hj
    ·exact ⟨pre.length,rfl,by simp⟩
    ·exact h1 j hj
   ·simp [jbl,hm]
theorem jnq (l:List RuleD) (i:List Int):(jbl l i).length≤l.length:=by
 unfold jbl;rw [List.length_map];exact List.length_filter_le _ _
theorem yb1 {l:List RuleD} {i:List Int} {x:Int} (h:x∈jbl l i):∃ r,r∈l∧jbw r.1 i=true∧r.2=x:=by
 obtain ⟨r,hr,rfl⟩:=List.mem_map.1 h
 rw [List.mem_filter] at hr
 exact ⟨r,hr.1,hr.2,rfl⟩
theorem jbi {t:TabD}:jbd t=true↔jdr t.name=true∧1≤t.pol∧t.pol≤7∧jfs t.ins=true∧jgv t.ins.length t.rules=true:=by
 simp [jbd,and_assoc]
theorem jf4 {l:List ByteArray}:jfs l=true↔0<l.length∧l.length≤3∧jly [] l=true:=by simp [jfs,and_assoc]
theorem jcd {n:Int} {l:List RuleD}:jgv n l=true↔0<l.length∧l.length≤6∧∀ r,r∈l→jfb n r=true:=by simp [jgv,and_assoc]
theorem jh2 {n:Int} {r:RuleD}:jfb n r=true ↔ -1000000≤r.2∧r.2≤1000000∧(r.1.length:Int)=n∧∀ c,c∈r.1→jcl c=true:=by simp [jfb,and_assoc]
theorem jp8 {c:CellD}:jcl c=true↔¬ (c.1=true∧c.2.length=0)∧c.2.length≤4∧jbv c.2=true:=by
 simp [jcl,and_assoc]
 cases c.1 <;> simp
theorem jxf {t:TabD} (h:jbd t=true) (i:List Int):(jbl t.rules i).length≤6∧∀ x,x∈jbl t.rules i → -1000000≤x∧x≤1000000:=by
 obtain ⟨_,_,_,_,h5⟩:=jbi.1 h
 obtain ⟨_,h6,h7⟩:=jcd.1 h5
 refine ⟨Nat.le_trans (jnq _ _) h6,fun x hx=>?_⟩
 obtain ⟨r,hr,_,rfl⟩:=yb1 hx
 obtain ⟨a,b,_⟩:=jh2.1 (h7 r hr)
 exact ⟨a,b⟩
theorem yaz (l:List Int):∀ a,(l.foldl min a≤a∧∀ x,x∈l→l.foldl min a≤x)∧(l.foldl min a=a∨l.foldl min a∈l):=by
 induction l with
 | nil=>intro a;simp
 | cons b l ih =>
  intro a
  obtain ⟨⟨h1,h2⟩,h3⟩:=ih (min a b)
  simp only [List.foldl_cons,List.mem_cons]
  refine ⟨⟨by omega,fun x hx=>?_⟩,?_⟩
  ·rcases hx with rfl | hx
   ·omega
   ·exact h2 x hx
  ·rcases h3 with h3 | h3
   ·rw [h3]
    by_cases hab:a≤b
    ·left;omega
    ·right;left;omega
   ·exact .inr (.inr h3)
theorem yay (l:List Int):∀ a,(a≤l.foldl max a∧∀ x,x∈l→x≤l.foldl max a)∧(l.foldl max a=a∨l.foldl max a∈l):=by
 induction l with
 | nil=>intro a;simp
 | cons b l ih =>
  intro a
  obtain ⟨⟨h1,h2⟩,h3⟩:=ih (max a b)
  simp only [List.foldl_cons,List.mem_cons]
  refine ⟨⟨by omega,fun x hx=>?_⟩,?_⟩
  ·rcases hx with rfl | hx
   ·omega
   ·exact h2 x hx
  ·rcases h3 with h3 | h3
   ·rw [h3]
    by_cases hab:b≤a
    ·left;omega
    ·right;left;omega
   ·exact .inr (.inr h3)
theorem jg4 {l:List Int} (h:0<l.length):minL l∈l∧∀ x,x∈l→minL l≤x:=by
 cases l with
 | nil=>simp at h
 | cons a l =>
  obtain ⟨⟨h1,h2⟩,h3⟩:=yaz l a
  refine ⟨?_,fun x hx=>?_⟩
  ·rcases h3 with h3 | h3
   ·show l.foldl min a∈_;rw [h3];simp
   ·exact List.mem_cons_of_mem _ h3
  ·rcases List.mem_cons.1 hx with rfl | hx
   ·exact h1
   ·exact h2 x hx
theorem jg3 {l:List Int} (h:0<l.length):maxL l∈l∧∀ x,x∈l→x≤maxL l:=by
 cases l with
 | nil=>simp at h
 | cons a l =>
  obtain ⟨⟨h1,h2⟩,h3⟩:=yay l a
  refine ⟨?_,fun x hx=>?_⟩
  ·rcases h3 with h3 | h3
   ·show l.foldl max a∈_;rw [h3];simp
   ·exact List.mem_cons_of_mem _ h3
  ·rcases List.mem_cons.1 hx with rfl | hx
   ·exact h1
   ·exact h2 x hx
theorem jhe {l:List Int}:jax 1 l=decide (1<l.length):=by
 cases l with
 | nil=>rfl
 | cons a l=>cases l <;> simp [jax,jbf]
theorem jhf {l:List Int}:jax 2 l=false↔∀ x,x∈l→∀ y,y∈l→x=y:=by
 cases l with
 | nil=>simp [jax]
 | cons a l =>
  simp only [jax,jbf,List.any_eq_false]
  constructor
  ·intro h
   have hk:∀ x,x∈a :: l→a=x:=by
    intro x hx
    rcases List.mem_cons.1 hx with rfl | hx
    ·rfl
    ·simpa using h x hx
   intro x hx y hy
   rw [← hk x hx,← hk y hy]
  ·intro h x hx
   have:=h a (by simp) x (by simp [hx])
   simp [this]
theorem jcz {p:Int} {l:List Int} (h1:p≠1) (h2:p≠2):jax p l=false:=by
 cases l with
 | nil=>rfl
 | cons a l=>simp [jax,jbf,h1,h2]
abbrev BoxD:=List (List (Int × Int))
def jko (c:CellD) (s:List (Int × Int)):List (Int × Int):=if c.2.length=0 then s else if c.1 then jbo s (jeh c.2) else jbq s (jeh c.2)
theorem ju3 {c:CellD} {s:List (Int × Int)} (hs:jbv s=true):jbv (jko c s)=true∧∀ n,hasB (jko c s) n=(hasB s n && je8 c n):=by
 have hn:=jc8 c.2
 unfold jko je8
 by_cases h0:c.2.length=0
 ·simp [h0,hs]
 ·rw [if_neg h0]
  have key:∀ n,hasB s n=true→hasB (jeh c.2) n=hasB c.2 n:=by
   intro n h
   rw [hn.2]
   have:=jrn hs h
   simp [this]
  cases hc:c.1
  ·obtain ⟨g1,g2⟩:=jd7 (La:=-1000002) (Lb:=-1000002) hs hn.1
   refine ⟨by simpa [jbv] using g1,fun n=>?_⟩
   simp only [Bool.false_eq_true,if_false,h0,decide_false,Bool.false_or]
   rw [g2]
   cases h:hasB s n
   ·rfl
   ·rw [key n h];simp
  ·obtain ⟨g1,g2⟩:=jup hs hn.1
   refine ⟨by simpa using g1,fun n=>?_⟩
   simp only [if_true,h0,decide_false,Bool.false_or]
   rw [g2]
   cases h:hasB s n
   ·rfl
   ·rw [key n h];simp
def jc9 (cs:List CellD) (a:BoxD):BoxD:=List.zipWith jko cs a
def jch (cs:List CellD) (a:BoxD):Bool:=decide (cs.length=a.length) && jan a a.length && jff (jc9 cs a)
def jpy (cs:List CellD) (a:BoxD):BoxD:=if jch cs a then jc9 cs a else []
theorem job {cs:List CellD} {a:BoxD}:jch cs a=true↔cs.length=a.length∧jan a a.length=true∧jff (jc9 cs a)=true:=by simp [jch,and_assoc]
theorem yja {a:BoxD}:∀ {cs:List CellD},jcf a=true→jff (jc9 cs a)=true→jcf (jc9 cs a)=true:=by
 induction a with
 | nil=>intro cs _ _;cases cs <;> rfl
 | cons s a ih =>
  intro cs ha hf
  cases cs with
  | nil=>rfl
  | cons c cs =>
   rw [jdu] at ha
   simp only [jc9,List.zipWith_cons_cons] at hf ⊢
   rw [jrl] at hf
   rw [jdu]
   exact ⟨⟨hf.1,(ju3 ha.1.2).1⟩,ih ha.2 hf.2⟩
theorem jmf {a:BoxD}:∀ {cs:List CellD},jcf a=true→cs.length=a.length→∀ {i:List Int},jaj (jc9 cs a) i=(jaj a i && jbw cs i):=by
 induction a with
 | nil =>
  intro cs _ hl i
  cases cs with
  | nil=>cases i <;> rfl
  | cons c cs=>simp at hl
 | cons s a ih =>
  intro cs ha hl i
  cases cs with
  | nil=>simp at hl
  | cons c cs =>
   rw [jdu] at ha
   cases i with
   | nil=>rfl
   | cons n i =>
    simp only [jc9,List.zipWith_cons_cons,jaj,jbw]
    have:=ih (cs:=cs) ha.2 (by simpa using hl) (i:=i)
    unfold jc9 at this
    rw [(ju3 ha.1.2).2,this]
    cases hasB s n <;> cases je8 c n <;> cases jaj a i <;> cases jbw cs i <;> rfl
theorem jj9 {cs:List CellD} {a:BoxD} (h:cs.length=a.length):(jc9 cs a).length=a.length:=by
 unfold jc9;rw [List.length_zipWith];omega
theorem jlr {cs:List CellD} {a:BoxD} (h:jch cs a=true):jan (jc9 cs a) a.length=true:=by
 obtain ⟨h1,h2,h3⟩:=job.1 h
 have:=jae.1 h2
 exact jae.2 ⟨⟨by rw [jj9 h1],this.1.2⟩,yja this.2 h3⟩
theorem jtu {cs:List CellD} {a:BoxD} (h1:cs.length=a.length) (h2:jan a a.length=true) (h:jch cs a=false) (i:List Int):(jaj a i && jbw cs i)=false:=by
 rw [← jmf (jae.1 h2).2 h1]
 refine yaw ?_
 cases hf:jff (jc9 cs a)
 ·rfl
 ·rw [job.2 ⟨h1,h2,hf⟩] at h;cases h
def yns (a:BoxD) (r:RuleD):Option BoxD:=if jch r.1 a then some (jc9 r.1 a) else none
def jhc (l:List RuleD) (a:BoxD):List BoxD:=l.filterMap (yns a)
theorem yc6 {l:List RuleD} {k:Nat} {r:RuleD} (h:l[k]? = some r) (a:BoxD):jhc (l.take (k+1)) a=jhc (l.take k) a ++ (if jch r.1 a then [jc9 r.1 a] else []):=by
 unfold jhc
 rw [jai h,List.filterMap_append]
 congr 1
 simp only [List.filterMap_cons,List.filterMap_nil,yns]
 split <;> simp_all
theorem jpz (l:List RuleD) (a:BoxD):(jhc l a).length≤l.length:=List.length_filterMap_le ..
def cmpL:List Int→List Int→Int
 | [],[]=>0
 | [],_ :: _=>-1
 | _ :: _,[]=>1
 | a :: l,b :: m=>if a<b then -1 else if b<a then 1 else cmpL l m
def jdg (a b:List Int):Bool:=decide (cmpL a b<0)
theorem jgp {a b:Int} {l m:List Int}:jdg (a :: l) (b :: m)=true↔a<b∨(a=b∧jdg l m=true):=by
 unfold jdg
 simp only [cmpL]
 by_cases h1:a<b
 ·simp [h1]
 ·by_cases h2:b<a
  ·simp [h1,h2];omega
  ·have:a=b:=by omega
   subst this;simp
theorem jnm (a:List Int):jdg a a=false:=by
 induction a with
 | nil=>rfl
 | cons x a ih =>
  cases h:jdg (x :: a) (x :: a)
  ·rfl
  ·rw [jgp] at h
   rcases h with h | h
   ·omega
   ·rw [ih] at h;cases h.2
theorem yd1 {a:List Int}:∀ {b:List Int},jdg a b=true→jdg b a=false:=by
 induction a with
 | nil=>intro b _;cases b <;> rfl
 | cons x a ih =>
  intro b h
  cases b with
  | nil=>simp [jdg,cmpL] at h
  | cons y b =>
   cases h2:jdg (y :: b) (x :: a)
   ·rfl
   ·rw [jgp] at h h2
    rcases h with h | h
    ·rcases h2 with h2 | h2 <;> omega
    ·rcases h2 with h2 | h2
     ·omega
     ·rw [ih h.2] at h2;cases h2.2
theorem jta {i:List Int}:∀ {a b:List Int},jdg i a=true→jdg b a=false→jdg i b=true:=by
 induction i with
 | nil =>
  intro a b h1 h2
  cases a with
  | nil=>simp [jdg,cmpL] at h1
  | cons x a=>cases b with
   | nil=>simp [jdg,cmpL] at h2
   | cons y b=>simp [jdg,cmpL]
 | cons n i ih =>
  intro a b h1 h2
  cases a with
  | nil=>simp [jdg,cmpL] at h1
  | cons x a =>
   cases b with
   | nil=>simp [jdg,cmpL] at h2
   | cons y b =>
    rw [jgp] at h1 ⊢
    have h2':¬ (y<x∨(y=x∧jdg b a=true)):=by rw [← jgp,h2];simp
    by_cases hxy:x<y
    ·omega
    ·have:x=y:=by omega
     subst this
     rcases h1 with h1 | h1
     ·exact .inl h1
     ·refine .inr ⟨h1.1,ih h1.2 ?_⟩
      cases hb:jdg b a
      ·rfl
      ·exact absurd (.inr ⟨rfl,hb⟩) h2'
theorem yec {b:BoxD}:∀ {i:List Int},jcf b=true→jaj b i=true→jdg i (jb7 b)=false:=by
 induction b with
 | nil=>intro i _ h;cases i with
  | nil=>rfl
  | cons n i=>simp [jaj] at h
 | cons s b ih =>
  intro i hs h
  cases i with
  | nil=>simp [jaj] at h
  | cons n i =>
   rw [jdu] at hs
   simp only [jaj,Bool.and_eq_true] at h
   cases s with
   | nil=>simp at hs
   | cons r s =>
    obtain ⟨x,y⟩:=r
    have e:jb7 (((x,y) :: s) :: b)=x :: jb7 b:=by simp [jb7]
    rw [e]
    have hg:=jao.1 hs.1.2
    have hx:x≤n:=by
     rcases jci.1 h.1 with h1 | h1
     ·exact h1.1
     ·have:=jkh hg.2.2.2.2 h1;omega
    cases hl:jdg (n :: i) (x :: jb7 b)
    ·rfl
    ·rw [jgp,ih hs.2 h.2] at hl
     rcases hl with hl | hl
     ·omega
     ·cases hl.2
def jhk (p:List Int) (l:List BoxD):List Int:=l.foldl (fun p b=>if jdg (jb7 b) p then jb7 b else p) p
def jjd:List BoxD→List Int × Bool
 | []=>([],false)
 | b :: l=>(jhk (jb7 b) l,true)
theorem ydz {l:List BoxD} {k:Nat} {b:BoxD} (h:l[k]? = some b) (p:List Int):jhk p (l.take (k+1))=(if jdg (jb7 b) (jhk p (l.take k)) then jb7 b else jhk p (l.take k)):=by
 unfold jhk
 rw [jai h,List.foldl_append];rfl
theorem ydy (l:List BoxD):∀ p,(jhk p l=p∨∃ b,b∈l∧jhk p l=jb7 b)∧jdg p (jhk p l)=false∧∀ b,b∈l→jdg (jb7 b) (jhk p l)=false:=by
 induction l with
 | nil=>intro p;exact ⟨.inl rfl,jnm _,fun b hb=>by simp at hb⟩
 | cons c l ih =>
  intro p
  have e:jhk p (c :: l)=jhk (if jdg (jb7 c) p then jb7 c else p) l:=rfl
  rw [e]
  obtain ⟨h1,h2,h3⟩:=ih (if jdg (jb7 c) p then jb7 c else p)
  by_cases hc:jdg (jb7 c) p=true
  ·rw [if_pos hc] at h1 h2 h3 ⊢
   refine ⟨.inr ?_,?_,fun b hb=>?_⟩
   ·rcases h1 with h1 | ⟨b,hb,h1⟩
    ·exact ⟨c,by simp,h1⟩
    ·exact ⟨b,by simp [hb],h1⟩
   ·cases hp:jdg p (jhk (jb7 c) l)
    ·rfl
    ·have:=jta hp h2
     rw [yd1 hc] at this;cases this
   ·rcases List.mem_cons.1 hb with rfl | hb
    ·exact h2
    ·exact h3 b hb
  ·rw [if_neg hc] at h1 h2 h3 ⊢
   have hc':jdg (jb7 c) p=false:=by simpa using hc
   refine ⟨?_,h2,fun b hb=>?_⟩
   ·rcases h1 with h1 | ⟨b,hb,h1⟩
    ·exact .inl h1
    ·exact .inr ⟨b,by simp [hb],h1⟩
   ·rcases List.mem_cons.1 hb with rfl | hb
    ·cases hp:jdg (jb7 b) (jhk p l)
     ·rfl
     ·have:=jta hp h2
      rw [hc'] at this;cases this
    ·exact h3 b hb
theorem yeo {l:List BoxD} (hl:∀ b,b∈l→jcf b=true):((jjd l).2=true→(∃ b,b∈l∧jaj b (jjd l).1=true)∧∀ b i,b∈l→jaj b i=true→jdg i (jjd l).1=false)∧((jjd l).2=false→l = []):=by
 cases l with
 | nil=>exact ⟨fun h=>by simp [jjd] at h,fun _=>rfl⟩
 | cons c l =>
  refine ⟨fun _=>?_,fun h=>by simp [jjd] at h⟩
  obtain ⟨h1,h2,h3⟩:=ydy l (jb7 c)
  show (∃ b,b∈c :: l∧jaj b (jhk (jb7 c) l)=true)∧∀ b i,b∈c :: l→jaj b i=true→jdg i (jhk (jb7 c) l)=false
  refine ⟨?_,fun b i hb hi=>?_⟩
  ·rcases h1 with h1 | ⟨b,hb,h1⟩
   ·exact ⟨c,by simp,by rw [h1];exact jl7 (hl c (by simp))⟩
   ·exact ⟨b,by simp [hb],by rw [h1];exact jl7 (hl b (by simp [hb]))⟩
  ·have hp:jdg (jb7 b) (jhk (jb7 c) l)=false:=by
    rcases List.mem_cons.1 hb with rfl | hb
    ·exact h2
    ·exact h3 b hb
   have hq:=yec (hl b hb) hi
   cases h:jdg i (jhk (jb7 c) l)
   ·rfl
   ·have:=jta h hp
    rw [hq] at this;cases this
def jgz (t:TabD) (a:BoxD):Bool:=jbd t && jan a t.ins.length
def gapV (t:TabD) (a:BoxD):List Int × Bool:=if t.pol≠7∧jgz t a=true then jjd (jpu a (jhc t.rules a)) else ([],false)
def jkk (p:Int) (a:BoxD) (r s:RuleD):Option BoxD:=if jbf p r.2 s.2 && (jch r.1 a && jch s.1 (jc9 r.1 a)) then some (jc9 s.1 (jc9 r.1 a)) else none
def jey (p:Int) (a:BoxD) (pre:List RuleD):List RuleD→List BoxD
 | []=>[]
 | r :: l=>pre.filterMap (jkk p a r) ++ jey p a (pre ++ [r]) l
def jct (t:TabD) (a:BoxD):List Int × Bool:=if jgz t a then jjd (jey t.pol a [] t.rules) else ([],false)
def jvr (a:BoxD) (f:List Int→Bool) (g:List Int × Bool):Prop :=
 (g.2=true→jaj a g.1=true∧f g.1=true∧∀ i,jaj a i=true→f i=true→jdg i g.1=false)∧(g.2=false→g.1 = []∧∀ i,jaj a i=true→f i=false)
theorem jun {a:BoxD} {f:List Int→Bool} {l:List BoxD} (hl:∀ b,b∈l→jcf b=true) (h:∀ i,(∃ b,b∈l∧jaj b i=true)↔jaj a i=true∧f i=true):jvr a f (jjd l):=by
 obtain ⟨h1,h2⟩:=yeo hl
 refine ⟨fun hs=>?_,fun hs=>?_⟩
 ·obtain ⟨h3,h4⟩:=h1 hs
  obtain ⟨h5,h6⟩:=(h _).1 h3
  exact ⟨h5,h6,fun i hi hf=>by obtain ⟨b,hb,hbi⟩:=(h i).2 ⟨hi,hf⟩;exact h4 b i hb hbi⟩
 ·have e:=h2 hs
  subst e
  refine ⟨rfl,fun i hi=>?_⟩
  cases hf:f i
  ·rfl
  ·obtain ⟨b,hb,_⟩:=(h i).2 ⟨hi,hf⟩
   simp at hb
theorem jhh {t:TabD} {a:BoxD} (h:jgz t a=true):jan a a.length=true∧a.length=t.ins.length∧∀ r,r∈t.rules→r.1.length=a.length:=by
 simp only [jgz,Bool.and_eq_true] at h
 obtain ⟨hg,hb⟩:=h
 have hl:=(jae.1 hb).1.1
 have hl':a.length=t.ins.length:=by omega
 refine ⟨jcu hb,hl',fun r hr=>?_⟩
 have:=(jh2.1 ((jcd.1 (jbi.1 hg).2.2.2.2).2.2 r hr)).2.2.1
 omega
theorem yb2 {l:List RuleD} {i:List Int}:(jbl l i).length=0↔∀ r,r∈l→jbw r.1 i=false:=by
 unfold jbl
 rw [List.length_map,List.length_eq_zero_iff,List.filter_eq_nil_iff]
 simp
theorem jp7 {t:TabD} {a:BoxD} (h:jgz t a=true) (hp:t.pol≠7):jvr a (fun i=>decide ((jbl t.rules i).length=0)) (gapV t a):=by
 obtain ⟨hg,hl,hr⟩:=jhh h
 unfold gapV
 rw [if_pos ⟨hp,h⟩,jl9,if_pos hg]
 obtain ⟨r1,_,_,r4⟩:=jqo hg (jhc t.rules a) _ (Nat.le_refl _)
 rw [List.take_length] at r1 r4
 refine jun (fun b hb=>(jae.1 (r1 b hb)).2) (fun i=>?_)
 have hc:(∃ b,b∈jiw a (jhc t.rules a)∧jaj b i=true)↔0<jde (jiw a (jhc t.rules a)) i:=by
  unfold jde;rw [List.countP_pos_iff]
 rw [hc,r4]
 have hin:jjp a.length (jhc t.rules a) i=true↔jaj a i=true∧∃ r,r∈t.rules∧jbw r.1 i=true:=by
  unfold jjp
  rw [List.any_eq_true]
  constructor
  ·rintro ⟨b,hb,h2⟩
   obtain ⟨r,hr',he⟩:=List.mem_filterMap.1 hb
   unfold yns at he
   split at he
   ·injection he with he
    subst he
    simp only [Bool.and_eq_true] at h2
    rw [jmf (jae.1 hg).2 (hr r hr')] at h2
    simp only [Bool.and_eq_true] at h2
    exact ⟨h2.2.1,r,hr',h2.2.2⟩
   ·cases he
  ·rintro ⟨h1,r,hr',hm⟩
   have hok:jch r.1 a=true:=by
    cases hh:jch r.1 a
    ·have:=jtu (hr r hr') hg hh i
     rw [h1,hm] at this;cases this
    ·rfl
   refine ⟨jc9 r.1 a,List.mem_filterMap.2 ⟨r,hr',by simp [yns,hok]⟩,?_⟩
   rw [jlr hok,jmf (jae.1 hg).2 (hr r hr'),h1,hm];rfl
 have hb:∀ b:Bool,0<bit b↔b=true:=fun b=>by cases b <;> simp [bit]
 rw [hb]
 simp only [Bool.and_eq_true,Bool.not_eq_true',decide_eq_true_eq,yb2]
 constructor
 ·rintro ⟨h1,h2⟩
  refine ⟨h1,fun r hr'=>?_⟩
  cases hm:jbw r.1 i
  ·rfl
  ·have:=hin.2 ⟨h1,r,hr',hm⟩
   rw [h2] at this;cases this
 ·rintro ⟨h1,h2⟩
  refine ⟨h1,?_⟩
  cases hh:jjp a.length (jhc t.rules a) i
  ·rfl
  ·obtain ⟨_,r,hr',hm⟩:=hin.1 hh
   rw [h2 r hr'] at hm;cases hm
def jo1 (p:Int) (pre:List Int):List Int→Bool
 | []=>false
 | a :: l=>pre.any (jbf p a) || jo1 p (pre ++ [a]) l
theorem ypd (l:List Int):∀ pre,jo1 1 pre l=(decide (0<pre.length∧0<l.length) || decide (1<l.length)):=by
 induction l with
 | nil=>intro pre;simp [jo1]
 | cons a l ih =>
  intro pre
  simp only [jo1,ih]
  have:pre.any (jbf 1 a)=decide (0<pre.length):=by cases pre <;> simp [jbf]
  rw [this]
  cases pre <;> cases l <;> simp
theorem ype (l:List Int):∀ pre,jo1 2 pre l=false↔(∀ x,x∈l→∀ y,y∈pre→x=y)∧∀ x,x∈l→∀ y,y∈l→x=y:=by
 induction l with
 | nil=>intro pre;simp [jo1]
 | cons a l ih =>
  intro pre
  simp only [jo1,Bool.or_eq_false_iff,ih]
  have:pre.any (jbf 2 a)=false↔∀ y,y∈pre→a=y:=by
   rw [List.any_eq_false]
   exact ⟨fun h y hy=>by simpa [jbf] using h y hy,fun h y hy=>by simp [jbf,h y hy]⟩
  rw [this]
  constructor
  ·rintro ⟨h1,h2,h3⟩
   refine ⟨fun x hx y hy=>?_,fun x hx y hy=>?_⟩
   ·rcases List.mem_cons.1 hx with rfl | hx
    ·exact h1 y hy
    ·exact h2 x hx y (by simp [hy])
   ·rcases List.mem_cons.1 hx with ex | hx' <;> rcases List.mem_cons.1 hy with ey | hy'
    ·rw [ex,ey]
    ·rw [ex];exact (h2 y hy' a (by simp)).symm
    ·rw [ey];exact h2 x hx' a (by simp)
    ·exact h3 x hx' y hy'
  ·rintro ⟨h1,h2⟩
   refine ⟨fun y hy=>h1 a (by simp) y hy,fun x hx y hy=>?_,fun x hx y hy=>h2 x (by simp [hx]) y (by simp [hy])⟩
   rcases List.mem_append.1 hy with hy | hy
   ·exact h1 x (by simp [hx]) y hy
   ·simp at hy;subst hy;exact h2 x (by simp [hx]) y (by simp)
theorem yhv {p:Int} (h1:p≠1) (h2:p≠2) (l:List Int):∀ pre,jo1 p pre l=false:=by
 induction l with
 | nil=>intro pre;rfl
 | cons a l ih=>intro pre;simp [jo1,ih,jbf,h1,h2]
theorem jqj (p:Int) (l:List Int):jo1 p [] l=jax p l:=by
 by_cases h1:p=1
 ·subst h1;rw [ypd,jhe];simp
 ·by_cases h2:p=2
  ·subst h2
   have:jo1 2 [] l=false↔jax 2 l=false:=by rw [ype,jhf];simp
   cases ha:jo1 2 [] l <;> cases hb:jax 2 l <;> simp_all
  ·rw [yhv h1 h2,jcz h1 h2]
theorem yo7 {p:Int} {a:BoxD} {r s:RuleD} (hg:jan a a.length=true) (hr:r.1.length=a.length) (hs:s.1.length=a.length) (i:List Int) (hi:jaj a i=true) :
  (match jkk p a r s with | some b=>jaj b i | none=>false)=(jbf p r.2 s.2 && jbw r.1 i && jbw s.1 i):=by
 unfold jkk
 cases hf:jbf p r.2 s.2
 ·simp
 ·cases h1:jch r.1 a
  ·have:=jtu hr hg h1 i
   rw [hi] at this
   have hm:jbw r.1 i=false:=by simpa using this
   simp [hm]
  ·have hg1:=jlr h1
   have e1:=jj9 hr
   have hh1:jaj (jc9 r.1 a) i=jbw r.1 i:=by rw [jmf (jae.1 hg).2 hr,hi];rfl
   have hg1':jan (jc9 r.1 a) (jc9 r.1 a).length=true:=by rw [e1];exact hg1
   cases h2:jch s.1 (jc9 r.1 a)
   ·have:=jtu (by rw [e1];exact hs) hg1' h2 i
    rw [hh1] at this
    simp [this]
   ·simp only [Bool.true_and,Bool.and_self,if_true]
    rw [jmf (jae.1 hg1').2 (by rw [e1];exact hs),hh1]
theorem ylu {p:Int} {a:BoxD} {r s:RuleD} {b:BoxD} (h:jkk p a r s=some b):jcf b=true:=by
 unfold jkk at h
 split at h
 ·rename_i hc
  injection h with h
  subst h
  simp only [Bool.and_eq_true] at hc
  exact (jae.1 (jlr hc.2.2)).2
 ·cases h
theorem ygs {p:Int} {a:BoxD} {l:List RuleD}:∀ {pre:List RuleD} {b:BoxD},b∈jey p a pre l→jcf b=true:=by
 induction l with
 | nil=>intro pre b h;simp [jey] at h
 | cons r l ih =>
  intro pre b h
  rcases List.mem_append.1 h with h | h
  ·obtain ⟨s,_,he⟩:=List.mem_filterMap.1 h
   exact ylu he
  ·exact ih h
theorem yo6 {p:Int} {a:BoxD} {r:RuleD} (hg:jan a a.length=true) (hr:r.1.length=a.length) (i:List Int) (hi:jaj a i=true) (pre:List RuleD) (hs:∀ s,s∈pre→s.1.length=a.length) :
  (pre.filterMap (jkk p a r)).any (fun b=>jaj b i)=(jbw r.1 i && (jbl pre i).any (jbf p r.2)):=by
 induction pre with
 | nil=>simp [jbl]
 | cons s pre ih =>
  have ih':=ih (fun s hs'=>hs s (by simp [hs']))
  have ho:=yo7 (p:=p) hg hr (hs s (by simp)) i hi
  have eo:(jbl (s :: pre) i).any (jbf p r.2)=((jbw s.1 i && jbf p r.2 s.2) || (jbl pre i).any (jbf p r.2)):=by
   unfold jbl
   cases hm:jbw s.1 i <;> simp [hm]
  rw [eo]
  cases hov:jkk p a r s with
  | none =>
   rw [hov] at ho
   simp only [List.filterMap_cons,hov,ih']
   simp only at ho
   revert ho
   cases jbw r.1 i <;> cases jbw s.1 i <;> cases jbf p r.2 s.2 <;> simp
  | some b =>
   rw [hov] at ho
   simp only [List.filterMap_cons,hov,List.any_cons,ih']
   simp only at ho
   rw [ho]
   cases jbw r.1 i <;> cases jbw s.1 i <;> cases jbf p r.2 s.2 <;> simp
theorem yjp {p:Int} {a:BoxD} (hg:jan a a.length=true) (i:List Int) (hi:jaj a i=true) (l:List RuleD):∀ (pre:List RuleD),(∀ s,s∈pre→s.1.length=a.length)→(∀ s,s∈l→s.1.length=a.length) →
  (jey p a pre l).any (fun b=>jaj b i)=jo1 p (jbl pre i) (jbl l i):=by
 induction l with
 | nil=>intro pre _ _;rfl
 | cons r l ih =>
  intro pre hp hl
  have h1:=ih (pre ++ [r]) (fun s hs=>by rcases List.mem_append.1 hs with h | h;exact hp s h;simp at h;subst h;exact hl s (by simp)) (fun s hs=>hl s (by simp [hs]))
  have h2:=yo6 (p:=p) hg (hl r (by simp)) i hi pre hp
  simp only [jey,List.any_append,h1,h2]
  unfold jbl
  cases hm:jbw r.1 i <;> simp [hm,jo1]
theorem jkc {t:TabD} {a:BoxD} (h:jgz t a=true):jvr a (fun i=>jax t.pol (jbl t.rules i)) (jct t a):=by
 obtain ⟨hg,hl,hr⟩:=jhh h
 unfold jct
 rw [if_pos h]
 refine jun (fun b hb=>ygs hb) (fun i=>?_)
 have hall:∀ b,b∈jey t.pol a [] t.rules→jaj b i=true→jaj a i=true:=by
  have key:∀ (l pre:List RuleD),(∀ s,s∈pre→s.1.length=a.length)→(∀ s,s∈l→s.1.length=a.length)→∀ b,b∈jey t.pol a pre l→jaj b i=true→jaj a i=true:=by
   intro l
   induction l with
   | nil=>intro pre _ _ b hb;simp [jey] at hb
   | cons r l ih =>
    intro pre hp hl' b hb hbi
    rcases List.mem_append.1 hb with hb | hb
    ·obtain ⟨s,hs,he⟩:=List.mem_filterMap.1 hb
     unfold jkk at he
     split at he
     ·rename_i hc
      injection he with he
      subst he
      simp only [Bool.and_eq_true] at hc
      have hr1:=hl' r (by simp)
      have e1:=jj9 hr1
      have hg1':jan (jc9 r.1 a) (jc9 r.1 a).length=true:=by rw [e1];exact jlr hc.2.1
      rw [jmf (jae.1 hg1').2 (by rw [e1];exact hp s hs),jmf (jae.1 hg).2 hr1] at hbi
      simp only [Bool.and_eq_true] at hbi
      exact hbi.1.1
     ·cases he
    ·exact ih (pre ++ [r]) (fun s hs=>by rcases List.mem_append.1 hs with h | h;exact hp s h;simp at h;subst h;exact hl' s (by simp)) (fun s hs=>hl' s (by simp [hs])) b hb hbi
  exact key t.rules [] (fun s hs=>by simp at hs) hr
 have hany:=fun hi=>yjp (p:=t.pol) hg i hi t.rules [] (fun s hs=>by simp at hs) hr
 constructor
 ·rintro ⟨b,hb,hbi⟩
  have hi:=hall b hb hbi
  refine ⟨hi,?_⟩
  rw [← jqj]
  show jo1 t.pol (jbl [] i) (jbl t.rules i)=true
  rw [← hany hi,List.any_eq_true]
  exact ⟨b,hb,hbi⟩
 ·rintro ⟨hi,hc⟩
  rw [← jqj] at hc
  have hc':jo1 t.pol (jbl [] i) (jbl t.rules i)=true:=hc
  rw [← hany hi,List.any_eq_true] at hc'
  exact hc'
theorem jix {p:Int} {o:List Int}:(jgc p o).2.2=if jax p o then 4 else 0:=by
 unfold jgc
 by_cases h:o.length=0∧p≠7
 ·rw [if_pos h,List.length_eq_zero_iff.1 h.1];rfl
 ·rw [if_neg h]
  cases jax p o <;> rfl
theorem jr3 {p:Int} {o:List Int} (hp:p≠7) (h:o.length=0):jgc p o=(0,false,0):=by
 unfold jgc;rw [if_pos ⟨h,hp⟩]
theorem jj4 {p:Int} {o:List Int} (h:p=7∨o.length≠0) (hc:(jgc p o).2.2=0):jgc p o=(jcc p o,true,0):=by
 rw [jix] at hc
 have hc':jax p o=false:=by
  cases h':jax p o
  ·rfl
  ·rw [h'] at hc;simp at hc
 unfold jgc
 rw [if_neg (by rintro ⟨h1,h2⟩;rcases h with h | h;exact h2 h;exact h h1),hc'];rfl
theorem yf7 (l:List RuleD) (i:List Int):(l.map fun r=>min r.2 0).sum≤(jbl l i).sum∧(jbl l i).sum≤(l.map fun r=>max r.2 0).sum:=by
 induction l with
 | nil=>simp [jbl]
 | cons r l ih =>
  unfold jbl at ih ⊢
  cases hm:jbw r.1 i
  ·simp only [List.map_cons,List.sum_cons,List.filter_cons,hm]
   simp only [Bool.false_eq_true,if_false]
   omega
  ·simp only [List.map_cons,List.sum_cons,List.filter_cons,hm]
   simp only [if_true,List.map_cons,List.sum_cons]
   omega
theorem jtd {l:List RuleD} {i:List Int} {x:Int} (h:x∈jbl l i):x∈l.map (·.2):=by
 obtain ⟨r,hr,_,rfl⟩:=yb1 h
 exact List.mem_map.2 ⟨r,hr,rfl⟩
theorem jvl {t:TabD} {a:BoxD} {l:List Int} (hg:jbd t=true) (hb:jan a t.ins.length=true) (hl:jaj a l=true) :
  (¬ ((gapV t a).2=false∧(jb5 t l).2.2=0∧(jb5 t l).2.1=false))∧((gapV t a).2=true→jb5 t (gapV t a).1=(0,false,0)∧jaj a (gapV t a).1=true) ∧
  ((jb5 t l).2.1=true→(jgq t).1≤(jb5 t l).1∧(jb5 t l).1≤(jgq t).2):=by
 have hf:jgz t a=true:=by simp [jgz,hg,hb]
 have hal:a.length=t.ins.length:=(jhh hf).2.1
 have hll:l.length=t.ins.length:=by rw [← hal];exact jdo hl
 have hs:jb5 t l=jgc t.pol (jbl t.rules l):=by unfold jb5;rw [if_pos ⟨hg,hll⟩]
 refine ⟨?_,?_,?_⟩
 ·rintro ⟨h1,h2,h3⟩
  rw [hs] at h2 h3
  by_cases hp:t.pol=7
  ·rw [jj4 (.inl hp) h2] at h3;cases h3
  ·have:=((jp7 hf hp).2 h1).2 l hl
   have h0:(jbl t.rules l).length≠0:=by simpa using this
   rw [jj4 (.inr h0) h2] at h3;cases h3
 ·intro h1
  by_cases hp:t.pol=7
  ·unfold gapV at h1;rw [if_neg (fun h=>h.1 hp)] at h1;cases h1
  ·obtain ⟨h2,h3,_⟩:=(jp7 hf hp).1 h1
   have h0:(jbl t.rules (gapV t a).1).length=0:=by simpa using h3
   refine ⟨?_,h2⟩
   unfold jb5
   rw [if_pos ⟨hg,by rw [← hal];exact jdo h2⟩]
   exact jr3 hp h0
 ·intro h1
  rw [hs] at h1 ⊢
  have hrl:0<t.rules.length:=(jcd.1 (jbi.1 hg).2.2.2.2).1
  have hm0:0<(t.rules.map (·.2)).length:=by rw [List.length_map];exact hrl
  have hcode:(jgc t.pol (jbl t.rules l)).2.2=0:=by
   rw [jix]
   unfold jgc at h1
   by_cases h:(jbl t.rules l).length=0∧t.pol≠7
   ·rw [if_pos h] at h1;cases h1
   ·rw [if_neg h] at h1
    cases hc:jax t.pol (jbl t.rules l)
    ·rfl
    ·rw [hc] at h1;cases h1
  have hne:t.pol=7∨(jbl t.rules l).length≠0:=by
   by_cases hp:t.pol=7
   ·exact .inl hp
   ·right
    intro h0
    rw [jr3 hp h0] at h1;cases h1
  rw [jj4 hne hcode]
  show (jgq t).1≤jcc t.pol (jbl t.rules l)∧jcc t.pol (jbl t.rules l)≤(jgq t).2
  unfold jgq
  rw [if_pos hg]
  have hin:∀ x,x∈jbl t.rules l→minL (t.rules.map (·.2))≤x∧x≤maxL (t.rules.map (·.2)):=fun x hx=>⟨(jg4 hm0).2 x (jtd hx),(jg3 hm0).2 x (jtd hx)⟩
  by_cases h7:t.pol=7
  ·rw [if_pos h7]
   unfold jcc
   rw [h7]
   have:=jnq t.rules l
   simp only [show (7:Int)≠4 from by decide,show (7:Int)≠5 from by decide,show (7:Int)≠6 from by decide,if_false,if_true]
   omega
  ·rw [if_neg h7]
   have h0:0<(jbl t.rules l).length:=by
    rcases hne with h | h
    ·exact absurd h h7
    ·omega
   by_cases h6:t.pol=6
   ·rw [if_pos h6]
    unfold jcc
    rw [h6]
    simp only [show (6:Int)≠4 from by decide,show (6:Int)≠5 from by decide,if_false,if_true]
    exact yf7 t.rules l
   ·rw [if_neg h6]
    unfold jcc
    by_cases h4:t.pol=4
    ·rw [if_pos h4];exact hin _ (jg4 h0).1
    ·rw [if_neg h4]
     by_cases h5:t.pol=5
     ·rw [if_pos h5];exact hin _ (jg3 h0).1
     ·rw [if_neg h5,if_neg h6,if_neg h7]
      refine hin _ ?_
      cases ho:jbl t.rules l with
      | nil=>rw [ho] at h0;simp at h0
      | cons x o=>simp
theorem yby {t:TabD} {a:BoxD} {l:List Int} (hg:jbd t=true) (hb:jan a t.ins.length=true) (hl:jaj a l=true) :
  ((jct t a).2=true→(jb5 t (jct t a).1).2.2=4∧jaj a (jct t a).1=true)∧((jct t a).2=false→(jb5 t l).2.2=0):=by
 have hf:jgz t a=true:=by simp [jgz,hg,hb]
 have hal:a.length=t.ins.length:=(jhh hf).2.1
 have hll:l.length=t.ins.length:=by rw [← hal];exact jdo hl
 refine ⟨fun h1=>?_,fun h1=>?_⟩
 ·obtain ⟨h2,h3,_⟩:=(jkc hf).1 h1
  refine ⟨?_,h2⟩
  unfold jb5
  rw [if_pos ⟨hg,by rw [← hal];exact jdo h2⟩,jix,show jax t.pol (jbl t.rules (jct t a).1)=true from h3];rfl
 ·have:=((jkc hf).2 h1).2 l hl
  unfold jb5
  rw [if_pos ⟨hg,hll⟩,jix,show jax t.pol (jbl t.rules l)=false from this];rfl
open Go.RowKit
abbrev Bs:=List UInt8
structure PS where
 rest:Bs
 bad:Bool
def spB (b:UInt8):Bool:=[32,10].contains b
def jau (l:Bs):Bs:=l.dropWhile spB
def digB (b:UInt8):Bool:=decide (48≤b.toNat) && decide (b.toNat≤57)
def jcg (p:PS):Bs × PS:=((jau p.rest).takeWhile ja5,⟨(jau p.rest).dropWhile ja5,p.bad⟩)
def jat (sym:Bs) (p:PS):Bool × PS:=(sym.isPrefixOf (jau p.rest),⟨if sym.isPrefixOf (jau p.rest) then (jau p.rest).drop sym.length else jau p.rest,p.bad⟩)
def jb4 (sym:Bs) (p:PS):PS:=⟨(jat sym p).2.rest,p.bad || !(jat sym p).1⟩
def jm8 (l:Bs):Nat:=if [45].isPrefixOf l then 1+((l.drop 1).takeWhile digB).length else (l.takeWhile digB).length
def numV (s:Bs):Option Int:=match Lib.atoiAll s with
 | .ok v=>if Lib.itoa v=s then some v else none
 | _=>none
def jaw (p:PS):Int × PS:=match numV ((jau p.rest).take (jm8 (jau p.rest))) with
 | some v=>(v,⟨(jau p.rest).drop (jm8 (jau p.rest)),p.bad⟩)
 | none=>(0,⟨(jau p.rest).drop (jm8 (jau p.rest)),true⟩)
def jcx (word:Bs) (p:PS):Bool × PS:=(decide ((jcg p).1=word),⟨(jcg p).2.rest,p.bad || (decide ((jcg p).1 ≠ []) && decide ((jcg p).1≠word))⟩)
def jdl (p:PS):(Int × Int) × PS :=
 if (jat [46,46] (jaw p).2).1 then
  (((jaw p).1,(jaw (jat [46,46] (jaw p).2).2).1),⟨(jaw (jat [46,46] (jaw p).2).2).2.rest,(jaw (jat [46,46] (jaw p).2).2).2.bad || decide ((jaw (jat [46,46] (jaw p).2).2).1≤(jaw p).1)⟩)
 else (((jaw p).1,(jaw p).1),(jat [46,46] (jaw p).2).2)
def sepP {α:Type} (item:PS → α × PS) (sym:Bs):Nat→PS→List α × PS
 | 0,p=>([],p)
 | n+1,p=>if (jat sym p).1 then ((item (jat sym p).2).1 :: (sepP item sym n (item (jat sym p).2).2).1,(sepP item sym n (item (jat sym p).2).2).2) else ([],(jat sym p).2)
def jvy {α:Type} (item:PS → α × PS) (sym:Bs) (p:PS):List α × PS :=
 ((item p).1 :: (sepP item sym ((item p).2.rest.length+1) (item p).2).1,(sepP item sym ((item p).2.rest.length+1) (item p).2).2)
def jh8:PS→List (Int × Int) × PS:=jvy jdl [124]
def jfr (p:PS):CellD × PS :=
 if (jat [42] p).1 then ((false,[]),(jat [42] p).2)
 else (((jcx [110,111,116] (jat [42] p).2).1,(jh8 (jcx [110,111,116] (jat [42] p).2).2).1),(jh8 (jcx [110,111,116] (jat [42] p).2).2).2)
def jhd:PS→List CellD × PS:=jvy jfr [44]
def jjv (p:PS):RuleD × PS :=
 (((jhd p).1,(jaw (jb4 [61,62] (jhd p).2)).1),jb4 [59] (jaw (jb4 [61,62] (jhd p).2)).2)
def jfi:Nat→PS→List RuleD × PS
 | 0,p=>([],p)
 | n+1,p=>if p.bad then ([],p) else if (jat [125] p).1 then ([],(jat [125] p).2)
  else ((jjv (jat [125] p).2).1 :: (jfi n (jjv (jat [125] p).2).2).1,(jfi n (jjv (jat [125] p).2).2).2)
def polW:List Bs:=[[117,110,105,113,117,101],[97,110,121],[102,105,114,115,116],[108,101,97,115,116],[109,111,115,116],[115,117,109],[99,111,117,110,116]]
def polT (n:Int):Bs:=polW.getD (n.toNat-1) []
def polP (p:PS):Int × PS:=match polW.findIdx? (· == (jcg p).1) with
 | some k=>((k:Int)+1,(jcg p).2)
 | none=>(0,⟨(jcg p).2.rest,true⟩)
def strP (p:PS):ByteArray × PS:=(⟨(jcg p).1.toArray⟩,(jcg p).2)
def jio:PS→List ByteArray × PS:=jvy strP [44]
abbrev DomD:=ByteArray × Int × Int
def domP (p:PS):DomD × PS :=
 (((strP p).1,(jaw (strP p).2).1,(jaw (jb4 [46,46] (jaw (strP p).2).2)).1),(jaw (jb4 [46,46] (jaw (strP p).2).2)).2)
def jyq (p:PS):TabD × PS :=
 let a:=strP p
 let b:=polP a.2
 let c:=jcx [99,111,109,112,108,101,116,101] b.2
 let i:=jio (jb4 [40] c.2)
 (⟨a.1,b.1,c.1,i.1,[]⟩,jb4 [123] (jb4 [41] i.2))
def jmr (p:PS):Nat:=if p.bad then 0 else p.rest.length+1
def tabP (p:PS):TabD × PS :=
 let h:=jyq p
 let r:=jfi (jmr h.2+1) h.2
 (⟨h.1.name,h.1.pol,h.1.comp,h.1.ins,r.1⟩,r.2)
def jni (p:PS):Bool:=!p.bad && (jau p.rest).isEmpty
def jef (d:DomD):Bool:=jdr d.1 && decide (-1000000≤d.2.1) && decide (d.2.1≤d.2.2) && decide (d.2.2≤1000000)
def jnc:DomD:=(⟨#[]⟩,0,0)
def je1:TabD:=⟨⟨#[]⟩,0,false,[],[]⟩
def jbx:Bs:=[100,111,109,97,105,110]
def jfj:Bs:=[116,97,98,108,101]
def jdz (s:Bs):DomD × TabD × Bool × Int :=
 if 2000<s.length then (jnc,je1,false,5)
 else if (jcg ⟨s,false⟩).1=jbx∧jni (domP (jcg ⟨s,false⟩).2).2=true∧jef (domP (jcg ⟨s,false⟩).2).1=true then ((domP (jcg ⟨s,false⟩).2).1,je1,false,0)
 else if (jcg ⟨s,false⟩).1=jfj∧jni (tabP (jcg ⟨s,false⟩).2).2=true∧jbd (tabP (jcg ⟨s,false⟩).2).1=true then (jnc,(tabP (jcg ⟨s,false⟩).2).1,true,0)
 else (jnc,je1,false,1)
def ji8 (a b:Int):Bs:=Lib.itoa a ++ [46,46] ++ Lib.itoa b
def je9 (r:Int × Int):Bs:=if r.1<r.2 then ji8 r.1 r.2 else Lib.itoa r.1
def jih (c:CellD):Bs:=if c.2.length=0 then [42] else (if c.1 then [110,111,116,32] else []) ++ Lib.join (c.2.map je9) [124]
def jkq (r:RuleD):Bs:=Lib.join (r.1.map jih) [44] ++ [32,61,62,32] ++ Lib.itoa r.2
def juc (t:TabD):Bs:=Lib.join ([jfj,t.name.data.toList,polT t.pol] ++ (if t.comp then [[99,111,109,112,108,101,116,101]] else []) ++ [[40] ++ Lib.join (t.ins.map (·.data.toList)) [44] ++ [41],[123,10]]) [32]
def jmd (t:TabD):Bs:=Lib.join ([juc t] ++ (t.rules.map fun r=>[32,32] ++ jkq r ++ [59,10]) ++ [[125,10]]) []
def domT (d:DomD):Bs:=jbx ++ [32] ++ d.1.data.toList ++ [32] ++ ji8 d.2.1 d.2.2 ++ [10]
structure BookD where
 doms:List DomD
 tabs:List TabD
def jdj (l:List DomD) (s:ByteArray):Option DomD:=l.find? fun d=>jap d.1 s
def jb3 (l:List TabD) (s:ByteArray):Option TabD:=l.find? fun t=>jap t.name s
def allO (b:BookD) (s:ByteArray):Option (Int × Int) :=
 match jdj b.doms s with
 | some d=>some (d.2.1,d.2.2)
 | none=>(jb3 b.tabs s).map jgq
def inBd (n:Int):Bool:=decide (-1000000≤n) && decide (n≤1000000)
def rngO (b:BookD) (s:ByteArray):Option (Int × Int) :=
 match allO b s with
 | some r=>if inBd r.1 && inBd r.2 then some r else none
 | none=>none
def je0 (b:BookD) (l:List ByteArray):Bool:=l.all fun s=>(rngO b s).isSome
def boxL (b:BookD) (l:List ByteArray):BoxD:=l.map fun s=>[(rngO b s).getD (0,0)]
def boxV (b:BookD) (t:TabD):BoxD × Bool:=if je0 b t.ins then (boxL b t.ins,true) else ([],false)
def hasN (l:List ByteArray) (s:ByteArray):Bool:=l.any (jap s)
def jq5 (wait:List ByteArray) (t:TabD):Bool:=t.ins.any (hasN wait)
def jd6 (wait:List ByteArray) (t:TabD):Bool:=hasN wait t.name && !jq5 wait t
def jke (l:List ByteArray) (s:ByteArray):List ByteArray:=l.filter fun x=>!jap x s
def jgx (ts:List TabD):Nat→List ByteArray→Option (List ByteArray)
 | 0,_=>some []
 | n+1,wait=>match ts.find? (jd6 wait) with
  | none=>none
  | some t=>(jgx ts n (jke wait t.name)).map (t.name :: ·)
def ja3 (ts:List TabD):List ByteArray:=ts.map (·.name)
def je4 (ts:List TabD):Option (List ByteArray):=jgx ts ts.length (ja3 ts)
def leS (a b:ByteArray):Bool:=Op.bytesLess a.toList b.toList || a.toList == b.toList
def jdc {α:Type} (f:α→ByteArray):List α→Bool
 | []=>true
 | [_]=>true
 | a :: b :: l=>!leS (f b) (f a) && jdc f (b :: l)
def jda (l:List DomD):Bool:=l.all jef && jdc (·.1) l
def jfg (b:BookD):Bool:=b.tabs.all jbd && jdc (·.name) b.tabs && b.tabs.all fun t=>(jdj b.doms t.name).isNone
def badT (b:BookD) (t:TabD):Option (List Int × Int) :=
 if (jct t (boxL b t.ins)).2 then some ((jct t (boxL b t.ins)).1,8)
 else if t.comp && (gapV t (boxL b t.ins)).2 then some ((gapV t (boxL b t.ins)).1,7)
 else none
def noS:ByteArray:=⟨#[]⟩
def ja6 (b:BookD):ByteArray × List Int × Int :=
 if 4<b.doms.length∨4<b.tabs.length then (noS,[],11)
 else if jda b.doms=false∨jfg b=false then (noS,[],1)
 else match b.tabs.find? (fun t=>!je0 b t.ins) with
  | some t=>(t.name,[],3)
  | none=>match je4 b.tabs with
   | none=>(noS,[],6)
   | some _=>match b.tabs.find? (fun t=>(badT b t).isSome) with
    | some t=>(t.name,(badT b t).getD ([],0))
    | none=>(noS,[],0)
abbrev AnsD:=ByteArray × Bool × Int
def jck (k:ByteArray→Option AnsD) (s:ByteArray):Bool:=((k s).map (·.2.1)).getD false
def numA (k:ByteArray→Option AnsD) (s:ByteArray):Int:=((k s).map (·.2.2)).getD 0
def jgl (k:ByteArray→Option AnsD) (t:TabD):AnsD :=
 if t.ins.all (jck k) then (t.name,(jb5 t (t.ins.map (numA k))).2.1,(jb5 t (t.ins.map (numA k))).1) else (t.name,false,0)
def putA (k:ByteArray→Option AnsD) (s:ByteArray) (a:AnsD):ByteArray→Option AnsD:=fun x=>if jap x s then some a else k x
def domK:List DomD→List Int→(ByteArray→Option AnsD)→ByteArray→Option AnsD
 | d :: l,n :: m,k=>domK l m (putA k d.1 (d.1,true,n))
 | _,_,k=>k
def askK (ts:List TabD):List ByteArray→(ByteArray→Option AnsD)→ByteArray→Option AnsD
 | [],k=>k
 | s :: l,k=>askK ts l (putA k s (jgl k ((jb3 ts s).getD ⟨noS,0,false,[],[]⟩)))
def jdf:List DomD→List Int→Bool
 | d :: l,n :: m=>decide (d.2.1≤n) && decide (n≤d.2.2) && jdf l m
 | _,_=>true
def askR (b:BookD) (l:List Int):ByteArray→Option AnsD:=askK b.tabs ((je4 b.tabs).getD []) (domK b.doms l fun _=>none)
def jjg:AnsD:=(noS,false,0)
def askV (b:BookD) (l:List Int):List AnsD × Int :=
 if (ja6 b).2.2≠0 then ([],(ja6 b).2.2)
 else if l.length≠b.doms.length then ([],1)
 else if jdf b.doms l=false then ([],2)
 else (b.tabs.map fun t=>(askR b l t.name).getD jjg,0)
theorem jeo {s t:ByteArray}:jap s t=true↔s=t:=by
 unfold jap
 rw [ByteArray.toList_eq,ByteArray.toList_eq]
 constructor
 ·intro h
  have h':s.data.toList=t.data.toList:=by simpa using h
  cases s;cases t
  simp at h'
  rw [h']
 ·intro h;subst h;simp
theorem jdk (s:ByteArray):jap s s=true:=jeo.2 rfl
theorem jek {s t:ByteArray}:jap s t=false↔s≠t:=by rw [← Bool.not_eq_true,jeo]
theorem jej {l:List ByteArray} {s:ByteArray}:hasN l s=true↔s∈l:=by
 unfold hasN;rw [List.any_eq_true]
 exact ⟨fun ⟨x,h1,h2⟩=>by rw [jeo.1 h2];exact h1,fun h=>⟨s,h,jdk s⟩⟩
theorem jdt {l:List ByteArray} {s:ByteArray}:hasN l s=false↔s ∉ l:=by rw [← Bool.not_eq_true,jej]
theorem jeg {l:List ByteArray} {s x:ByteArray}:x∈jke l s↔x∈l∧x≠s:=by
 unfold jke;rw [List.mem_filter];simp [jek]
theorem jij {l:List ByteArray} (s:ByteArray) (h:l.Nodup):(jke l s).Nodup:=h.filter _
theorem jhg {l:List ByteArray} {s:ByteArray} (h:l.Nodup) (hs:s∈l):(jke l s).length+1=l.length:=by
 induction l with
 | nil=>simp at hs
 | cons a l ih =>
  rw [List.nodup_cons] at h
  by_cases e:a=s
  ·subst e
   have:jke (a :: l) a=l:=by
    unfold jke
    rw [List.filter_cons,jdk]
    simp only [Bool.not_true,Bool.false_eq_true,if_false]
    rw [List.filter_eq_self]
    intro x hx
    have:x≠a:=fun e=>h.1 (e ▸ hx)
    rw [jek.2 this];rfl
   rw [this];simp
  ·have hs':s∈l:=by
    rcases List.mem_cons.1 hs with h | h
    ·exact absurd h.symm e
    ·exact h
   have:=ih h.2 hs'
   have e2:jke (a :: l) s=a :: jke l s:=by
    unfold jke
    rw [List.filter_cons,jek.2 e];rfl
   rw [e2];simp;omega
theorem jd8 {l:List TabD} {s:ByteArray} {t:TabD} (h:jb3 l s=some t):t∈l∧t.name=s:=by
 have h1:=List.mem_of_find?_eq_some h
 have h2:=List.find?_some h
 exact ⟨h1,jeo.1 h2⟩
theorem jwz {l:List TabD} {s:ByteArray}:jb3 l s=none↔s ∉ ja3 l:=by
 unfold jb3 ja3
 rw [List.find?_eq_none]
 simp only [List.mem_map,not_exists,not_and]
 exact ⟨fun h t ht e=>h t ht (jeo.2 e),fun h t ht e=>h t ht (jeo.1 e)⟩
theorem jru {l:List TabD} (h:(ja3 l).Nodup) {t u:TabD} (ht:t∈l) (hu:u∈l) (e:t.name=u.name):t=u:=by
 induction l with
 | nil=>simp at ht
 | cons a l ih =>
  simp only [ja3,List.map_cons,List.nodup_cons] at h
  rcases List.mem_cons.1 ht with e1 | ht <;> rcases List.mem_cons.1 hu with e2 | hu
  ·rw [e1,e2]
  ·exact absurd (List.mem_map.2 ⟨u,hu,by rw [← e,e1]⟩) h.1
  ·exact absurd (List.mem_map.2 ⟨t,ht,by rw [e,e2]⟩) h.1
  ·exact ih h.2 ht hu
theorem jp5 {l:List TabD} (h:(ja3 l).Nodup) {t:TabD} (ht:t∈l):jb3 l t.name=some t:=by
 cases hf:jb3 l t.name with
 | none=>exact absurd (List.mem_map.2 ⟨t,ht,rfl⟩) (jwz.1 hf)
 | some u =>
  obtain ⟨h1,h2⟩:=jd8 hf
  rw [jru h h1 ht h2]
inductive Placed (ts:List TabD):List ByteArray→List ByteArray→Prop
 | nil:Placed ts [] []
 | cons {wait l:List ByteArray} {t:TabD}:t∈ts→t.name∈wait→(∀ s,s∈t.ins→s ∉ wait)→Placed ts (jke wait t.name) l→Placed ts wait (t.name :: l)
theorem jnv {wait:List ByteArray} {t:TabD}:jd6 wait t=true↔t.name∈wait∧∀ s,s∈t.ins→s ∉ wait:=by
 unfold jd6 jq5
 rw [Bool.and_eq_true,jej,Bool.not_eq_true',List.any_eq_false]
 constructor
 ·rintro ⟨h1,h2⟩;exact ⟨h1,fun s hs=>jdt.1 (by simpa using h2 s hs)⟩
 ·rintro ⟨h1,h2⟩;exact ⟨h1,fun s hs=>by rw [jdt.2 (h2 s hs)];simp⟩
theorem jy7 {ts:List TabD}:∀ {n:Nat} {wait l:List ByteArray},wait.Nodup→wait.length=n→jgx ts n wait=some l→Placed ts wait l:=by
 intro n
 induction n with
 | zero =>
  intro wait l _ hl h
  obtain rfl:=List.length_eq_zero_iff.1 hl
  simp [jgx] at h;subst h;exact .nil
 | succ n ih =>
  intro wait l hn hl h
  simp only [jgx] at h
  cases hf:ts.find? (jd6 wait) with
  | none=>rw [hf] at h;cases h
  | some t =>
   rw [hf] at h
   simp only [Option.map_eq_some_iff] at h
   obtain ⟨l',h1,rfl⟩:=h
   obtain ⟨r1,r2⟩:=jnv.1 (List.find?_some hf)
   have hd:=jhg hn r1
   exact .cons (List.mem_of_find?_eq_some hf) r1 r2 (ih (jij _ hn) (by omega) h1)
theorem Placed.length {ts:List TabD} {wait l:List ByteArray} (h:Placed ts wait l) (hn:wait.Nodup):l.length=wait.length:=by
 induction h with
 | nil=>rfl
 | cons _ h2 _ _ ih =>
  have:=jhg hn h2
  have:=ih (jij _ hn)
  simp;omega
theorem Placed.mem {ts:List TabD} {wait l:List ByteArray} (h:Placed ts wait l):∀ x,x∈l↔x∈wait:=by
 induction h with
 | nil=>intro x;simp
 | cons _ h2 _ _ ih =>
  rename_i wait l t _ _ _
  intro x
  rw [List.mem_cons,ih,jeg]
  constructor
  ·rintro (rfl | h)
   ·exact h2
   ·exact h.1
  ·intro h
   by_cases e:x=t.name
   ·exact .inl e
   ·exact .inr ⟨h,e⟩
theorem jf8 {ts:List TabD} {l:List ByteArray} (hn:(ja3 ts).Nodup) (h:je4 ts=some l):Placed ts (ja3 ts) l:=jy7 hn (by simp [ja3]) h
theorem yc5 {k k':ByteArray→Option AnsD} {t:TabD} (h:∀ s,s∈t.ins→k s=k' s):jgl k t=jgl k' t:=by
 have h1:t.ins.all (jck k)=t.ins.all (jck k'):=by
  have:∀ l:List ByteArray,(∀ s,s∈l→k s=k' s)→l.all (jck k)=l.all (jck k'):=by
   intro l
   induction l with
   | nil=>intro _;rfl
   | cons s l ih=>intro h;simp only [List.all_cons];rw [ih fun x hx=>h x (by simp [hx])];unfold jck;rw [h s (by simp)]
  exact this _ h
 have h2:t.ins.map (numA k)=t.ins.map (numA k'):=List.map_congr_left fun s hs=>by unfold numA;rw [h s hs]
 unfold jgl
 rw [h1,h2]
theorem jnt (k:ByteArray→Option AnsD) (s:ByteArray) (a:AnsD):putA k s a s=some a:=by unfold putA;rw [jdk];rfl
theorem jry (k:ByteArray→Option AnsD) {s x:ByteArray} (a:AnsD) (h:x≠s):putA k s a x=k x:=by unfold putA;rw [jek.2 h];rfl
theorem yjb {ts:List TabD} (hu:(ja3 ts).Nodup) {wait l:List ByteArray} (h:Placed ts wait l) :
  ∀ k,(∀ x,x ∉ wait→askK ts l k x=k x)∧∀ t,t∈ts→t.name∈wait→askK ts l k t.name=some (jgl (askK ts l k) t):=by
 induction h with
 | nil=>intro k;exact ⟨fun _ _=>rfl,fun t _ h=>by simp at h⟩
 | cons h1 h2 h3 h4 ih =>
  rename_i wait l u
  intro k
  have e:(jb3 ts u.name).getD ⟨noS,0,false,[],[]⟩=u:=by rw [jp5 hu h1];rfl
  have ea:askK ts (u.name :: l) k=askK ts l (putA k u.name (jgl k u)):=by simp only [askK,e]
  obtain ⟨i1,i2⟩:=ih (putA k u.name (jgl k u))
  rw [ea]
  have key:∀ x,x ∉ wait→askK ts l (putA k u.name (jgl k u)) x=k x:=by
   intro x hx
   rw [i1 x (fun hh=>hx (jeg.1 hh).1),jry _ _ (fun e=>hx (by rw [e];exact h2))]
  refine ⟨key,fun t ht hw=>?_⟩
  by_cases e2:t.name=u.name
  ·have:t=u:=jru hu ht h1 e2
   subst this
   rw [i1 t.name (fun hh=>(jeg.1 hh).2 rfl),jnt]
   congr 1
   exact yc5 fun s hs=>(key s (h3 s hs)).symm
  ·exact i2 t ht (jeg.2 ⟨hw,e2⟩)
theorem ymq {t:TabD} {l:List Int} (hg:jbd t=true) (h1:(jb5 t l).2.1=true):(jgq t).1≤(jb5 t l).1∧(jb5 t l).1≤(jgq t).2:=by
 have hll:l.length=t.ins.length:=by
  by_cases h:l.length=t.ins.length
  ·exact h
  ·unfold jb5 at h1;rw [if_neg (fun hh=>h hh.2)] at h1;cases h1
 have hs:jb5 t l=jgc t.pol (jbl t.rules l):=by unfold jb5;rw [if_pos ⟨hg,hll⟩]
 rw [hs] at h1 ⊢
 have hrl:0<t.rules.length:=(jcd.1 (jbi.1 hg).2.2.2.2).1
 have hm0:0<(t.rules.map (·.2)).length:=by rw [List.length_map];exact hrl
 have hcode:(jgc t.pol (jbl t.rules l)).2.2=0:=by
  rw [jix]
  unfold jgc at h1
  by_cases h:(jbl t.rules l).length=0∧t.pol≠7
  ·rw [if_pos h] at h1;cases h1
  ·rw [if_neg h] at h1
   cases hc:jax t.pol (jbl t.rules l)
   ·rfl
   ·rw [hc] at h1;cases h1
 have hne:t.pol=7∨(jbl t.rules l).length≠0:=by
  by_cases hp:t.pol=7
  ·exact .inl hp
  ·right
   intro h0
   rw [jr3 hp h0] at h1;cases h1
 rw [jj4 hne hcode]
 show (jgq t).1≤jcc t.pol (jbl t.rules l)∧jcc t.pol (jbl t.rules l)≤(jgq t).2
 unfold jgq
 rw [if_pos hg]
 have hin:∀ x,x∈jbl t.rules l→minL (t.rules.map (·.2))≤x∧x≤maxL (t.rules.map (·.2)):=fun x hx=>⟨(jg4 hm0).2 x (jtd hx),(jg3 hm0).2 x (jtd hx)⟩
 by_cases h7:t.pol=7
 ·rw [if_pos h7]
  unfold jcc
  rw [h7]
  have:=jnq t.rules l
  simp only [show (7:Int)≠4 from by decide,show (7:Int)≠5 from by decide,show (7:Int)≠6 from by decide,if_false,if_true]
  omega
 ·rw [if_neg h7]
  have h0:0<(jbl t.rules l).length:=by
   rcases hne with h | h
   ·exact absurd h h7
   ·omega
  by_cases h6:t.pol=6
  ·rw [if_pos h6]
   unfold jcc
   rw [h6]
   simp only [show (6:Int)≠4 from by decide,show (6:Int)≠5 from by decide,if_false,if_true]
   exact yf7 t.rules l
  ·rw [if_neg h6]
   unfold jcc
   by_cases h4:t.pol=4
   ·rw [if_pos h4];exact hin _ (jg4 h0).1
   ·rw [if_neg h4]
    by_cases h5:t.pol=5
    ·rw [if_pos h5];exact hin _ (jg3 h0).1
    ·rw [if_neg h5,if_neg h6,if_neg h7]
     refine hin _ ?_
     cases ho:jbl t.rules l with
     | nil=>rw [ho] at h0;simp at h0
     | cons x o=>simp
theorem yrz {t:TabD} (hg:jbd t=true):(jgq t).1≤(jgq t).2:=by
 have hrl:0<t.rules.length:=(jcd.1 (jbi.1 hg).2.2.2.2).1
 have hm0:0<(t.rules.map (·.2)).length:=by rw [List.length_map];exact hrl
 have hsum:∀ l:List RuleD,(l.map fun r=>min r.2 0).sum≤(l.map fun r=>max r.2 0).sum:=by
  intro l
  induction l with
  | nil=>simp
  | cons r l ih=>simp only [List.map_cons,List.sum_cons];omega
 unfold jgq
 rw [if_pos hg]
 split
 ·simp
 ·split
  ·exact hsum _
  ·exact (jg4 hm0).2 _ (jg3 hm0).1
theorem jel (a:List UInt8):Op.bytesLess a a=false:=by
 induction a with
 | nil=>rfl
 | cons x a ih=>simp [Op.bytesLess,ih]
theorem jhy {a:List UInt8}:∀ {b c:List UInt8},Op.bytesLess a b=true→Op.bytesLess b c=true→Op.bytesLess a c=true:=by
 induction a with
 | nil =>
  intro b c h1 h2
  cases c with
  | nil=>cases b <;> simp [Op.bytesLess] at h2
  | cons z c=>rfl
 | cons x a ih =>
  intro b c h1 h2
  cases b with
  | nil=>simp [Op.bytesLess] at h1
  | cons y b =>
   cases c with
   | nil=>simp [Op.bytesLess] at h2
   | cons z c =>
    simp only [Op.bytesLess,Bool.or_eq_true,Bool.and_eq_true,decide_eq_true_eq,beq_iff_eq] at h1 h2 ⊢
    rcases h1 with h1 | ⟨rfl,h1⟩ <;> rcases h2 with h2 | ⟨rfl,h2⟩
    ·exact .inl (UInt8.lt_trans h1 h2)
    ·exact .inl h1
    ·exact .inl h2
    ·exact .inr ⟨rfl,ih h1 h2⟩
theorem jng {a:List UInt8}:∀ {b:List UInt8},Op.bytesLess a b=false→a≠b→Op.bytesLess b a=true:=by
 induction a with
 | nil =>
  intro b h1 h2
  cases b with
  | nil=>exact absurd rfl h2
  | cons y b=>simp [Op.bytesLess] at h1
 | cons x a ih =>
  intro b h1 h2
  cases b with
  | nil=>rfl
  | cons y b =>
   simp only [Op.bytesLess,Bool.or_eq_false_iff,Bool.and_eq_false_iff,decide_eq_false_iff_not,beq_eq_false_iff_ne] at h1
   simp only [Op.bytesLess,Bool.or_eq_true,Bool.and_eq_true,decide_eq_true_eq,beq_iff_eq]
   by_cases e:x=y
   ·subst e
    right
    refine ⟨rfl,ih ?_ (fun e=>h2 (by rw [e]))⟩
    rcases h1.2 with h | h
    ·exact absurd rfl h
    ·exact h
   ·left
    have:=h1.1
    rcases Nat.lt_trichotomy x.toNat y.toNat with h | h | h
    ·exact absurd h this
    ·exact absurd (UInt8.toNat_inj.1 h) e
    ·exact h
theorem jum {a b:ByteArray}:leS a b=false↔Op.bytesLess b.toList a.toList=true:=by
 unfold leS
 rw [Bool.or_eq_false_iff,beq_eq_false_iff_ne]
 constructor
 ·rintro ⟨h1,h2⟩;exact jng h1 h2
 ·intro h
  refine ⟨?_,fun e=>?_⟩
  ·cases hh:Op.bytesLess a.toList b.toList
   ·rfl
   ·have:=jhy hh h;rw [jel] at this;cases this
  ·rw [e,jel] at h;cases h
theorem jqq {α:Type} {f:α→ByteArray} {l:List α}:∀ {a:α},jdc f (a :: l)=true→∀ x,x∈l→Op.bytesLess (f a).toList (f x).toList=true:=by
 induction l with
 | nil=>intro a _ x hx;simp at hx
 | cons b l ih =>
  intro a h x hx
  simp only [jdc,Bool.and_eq_true,Bool.not_eq_true'] at h
  have h1:=jum.1 h.1
  rcases List.mem_cons.1 hx with rfl | hx
  ·exact h1
  ·exact jhy h1 (ih h.2 x hx)
theorem jqs {α:Type} {f:α→ByteArray} {a:α} {l:List α} (h:jdc f (a :: l)=true):jdc f l=true:=by
 cases l with
 | nil=>rfl
 | cons b l=>simp only [jdc,Bool.and_eq_true] at h;exact h.2
theorem jfo {α:Type} {f:α→ByteArray} {l:List α} (h:jdc f l=true):(l.map f).Nodup:=by
 induction l with
 | nil=>exact List.nodup_nil
 | cons a l ih =>
  rw [List.map_cons,List.nodup_cons]
  refine ⟨fun hx=>?_,ih (jqs h)⟩
  obtain ⟨x,hx,e⟩:=List.mem_map.1 hx
  have:=jqq h x hx
  rw [e,jel] at this;cases this
theorem jfx {b:BookD} (h:(ja6 b).2.2=0) :
  b.doms.length≤4∧b.tabs.length≤4∧jda b.doms=true∧jfg b=true∧(∀ t,t∈b.tabs→je0 b t.ins=true)∧(∃ l,je4 b.tabs=some l)∧∀ t,t∈b.tabs→badT b t=none:=by
 unfold ja6 at h
 split at h
 ·cases h
 ·rename_i h1
  split at h
  ·cases h
  ·rename_i h2
   split at h
   ·cases h
   ·rename_i h3
    split at h
    ·cases h
    ·rename_i l h4
     split at h
     ·rename_i t h5
      have hb:=List.find?_some h5
      cases hbt:badT b t with
      | none=>rw [hbt] at hb;cases hb
      | some r =>
       rw [hbt] at h
       unfold badT at hbt
       split at hbt
       ·injection hbt with hbt;subst hbt;cases h
       ·split at hbt
        ·injection hbt with hbt;subst hbt;cases h
        ·cases hbt
     ·rename_i h5
      refine ⟨by omega,by omega,by simpa using fun e=>h2 (.inl e),by simpa using fun e=>h2 (.inr e),fun t ht=>?_,⟨l,h4⟩,fun t ht=>?_⟩
      ·have:=List.find?_eq_none.1 h3 t ht
       simpa using this
      ·have:=List.find?_eq_none.1 h5 t ht
       simpa using this
theorem js8 {b:BookD} (h:jda b.doms=true) {d:DomD} (hd:d∈b.doms):jef d=true:=by
 unfold jda at h;rw [Bool.and_eq_true] at h;exact List.all_eq_true.1 h.1 d hd
theorem jg6 {b:BookD} (h:jfg b=true) {t:TabD} (ht:t∈b.tabs):jbd t=true:=by
 unfold jfg at h;simp only [Bool.and_eq_true] at h;exact List.all_eq_true.1 h.1.1 t ht
theorem jin {b:BookD} (h:jfg b=true):(ja3 b.tabs).Nodup:=by
 unfold jfg at h;simp only [Bool.and_eq_true] at h;exact jfo h.1.2
theorem jrm {b:BookD} (h:jfg b=true) {t:TabD} (ht:t∈b.tabs):jdj b.doms t.name=none:=by
 unfold jfg at h;simp only [Bool.and_eq_true] at h;simpa using List.all_eq_true.1 h.2 t ht
theorem jua {d:DomD}:jef d=true↔jdr d.1=true ∧ -1000000≤d.2.1∧d.2.1≤d.2.2∧d.2.2≤1000000:=by simp [jef,and_assoc]
theorem jgn {l:List DomD} {s:ByteArray} {d:DomD} (h:jdj l s=some d):d∈l∧d.1=s :=
 ⟨List.mem_of_find?_eq_some h,jeo.1 (List.find?_some (p:=fun d:DomD=>jap d.1 s) h)⟩
theorem jof {l:List DomD} {s:ByteArray} (h:jdj l s=none) {d:DomD} (hd:d∈l):d.1≠s:=by
 have:=List.find?_eq_none.1 h d hd
 exact fun e=>this (jeo.2 e)
theorem jzk {b:BookD} (hd:jda b.doms=true) (ht:jfg b=true) {s:ByteArray} (h:(rngO b s).isSome=true) :
  ∃ r,rngO b s=some r∧jbv [r]=true∧((∃ d,d∈b.doms∧d.1=s∧jdj b.doms s=some d∧r=(d.2.1,d.2.2))∨(jdj b.doms s=none∧∃ t,t∈b.tabs∧t.name=s∧r=jgq t)):=by
 obtain ⟨r,hr⟩:=Option.isSome_iff_exists.1 h
 refine ⟨r,hr,?_⟩
 unfold rngO at hr
 cases ha:allO b s with
 | none=>rw [ha] at hr;cases hr
 | some q =>
  rw [ha] at hr
  simp only at hr
  split at hr
  ·rename_i hin
   injection hr with hr
   subst hr
   simp only [inBd,Bool.and_eq_true,decide_eq_true_eq] at hin
   have good:q.1≤q.2→jbv [q]=true:=by
    intro hle
    obtain ⟨x,y⟩:=q
    simp [jbv,jbn] at *
    omega
   unfold allO at ha
   cases hf:jdj b.doms s with
   | some d =>
    rw [hf] at ha
    injection ha with ha
    subst ha
    obtain ⟨h1,h2⟩:=jgn hf
    exact ⟨good (jua.1 (js8 hd h1)).2.2.1,.inl ⟨d,h1,h2,rfl,rfl⟩⟩
   | none =>
    rw [hf] at ha
    simp only [Option.map_eq_some_iff] at ha
    obtain ⟨t,h1,rfl⟩:=ha
    obtain ⟨h2,h3⟩:=jd8 h1
    exact ⟨good (yrz (jg6 ht h2)),.inr ⟨rfl,t,h2,h3,rfl⟩⟩
  ·cases hr
theorem ynv {b:BookD} (hd:jda b.doms=true) (ht:jfg b=true) {l:List ByteArray} (h:je0 b l=true) (hl:l.length≤3):jan (boxL b l) l.length=true:=by
 have hs:jcf (boxL b l)=true:=by
  unfold jcf boxL
  rw [List.all_map,List.all_eq_true]
  intro s hs
  obtain ⟨r,h1,h2,_⟩:=jzk hd ht (List.all_eq_true.1 h s hs)
  simp [h1,h2]
 unfold jan
 rw [hs]
 simp [boxL];omega
theorem jt6 {ds:List DomD}:∀ {l:List Int} {k:ByteArray→Option AnsD} {s:ByteArray},(∀ d,d∈ds→d.1≠s)→domK ds l k s=k s:=by
 induction ds with
 | nil=>intro l k s _;rfl
 | cons d ds ih =>
  intro l k s h
  cases l with
  | nil=>rfl
  | cons n l =>
   simp only [domK]
   rw [ih (fun x hx=>h x (List.mem_cons_of_mem _ hx)),jry _ _ (Ne.symm (h d List.mem_cons_self))]
theorem yj4 {ds:List DomD}:∀ {l:List Int} {k:ByteArray→Option AnsD} {d:DomD},(ds.map (·.1)).Nodup→ds.length=l.length→jdf ds l=true→d∈ds→∃ n,domK ds l k d.1=some (d.1,true,n)∧d.2.1≤n∧n≤d.2.2:=by
 induction ds with
 | nil=>intro l k d _ _ _ h;simp at h
 | cons a ds ih =>
  intro l k d hn hl hi hd
  cases l with
  | nil=>simp at hl
  | cons n l =>
   simp only [jdf,Bool.and_eq_true,decide_eq_true_eq] at hi
   rw [List.map_cons,List.nodup_cons] at hn
   simp only [domK]
   rcases List.mem_cons.1 hd with rfl | hd'
   ·refine ⟨n,?_,hi.1.1,hi.1.2⟩
    rw [jt6 (fun x hx e=>hn.1 (List.mem_map.2 ⟨x,hx,e⟩)),jnt]
   ·exact ih hn.2 (by simpa using hl) hi.2 hd'
theorem yhc {b:BookD} {k:ByteArray→Option AnsD} {l:List ByteArray} (h:∀ s,s∈l→hasB [(rngO b s).getD (0,0)] (numA k s)=true):jaj (boxL b l) (l.map (numA k))=true:=by
 induction l with
 | nil=>rfl
 | cons s l ih =>
  have:=ih (fun x hx=>h x (List.mem_cons_of_mem _ hx))
  simp only [boxL,List.map_cons,jaj,Bool.and_eq_true] at *
  exact ⟨h s List.mem_cons_self,this⟩
theorem jnd {b:BookD} (hc:(ja6 b).2.2=0) {l:List Int} (hl:l.length=b.doms.length) (hi:jdf b.doms l=true) :
  (∀ s,s ∉ ja3 b.tabs→askR b l s=domK b.doms l (fun _=>none) s) ∧
  ∀ t,t∈b.tabs→askR b l t.name=some (jgl (askR b l) t)∧(t.ins.all (jck (askR b l))=true →
   (jb5 t (t.ins.map (numA (askR b l)))).2.2=0∧(t.comp=true→(jb5 t (t.ins.map (numA (askR b l)))).2.1=true)):=by
 obtain ⟨h1,h2,hgd,hgt,hbox,⟨o,ho⟩,hbad⟩:=jfx hc
 have hnd:=jin hgt
 have hP:=jf8 hnd ho
 have hsp:=yjb hnd hP (domK b.doms l fun _=>none)
 have eo:askR b l=askK b.tabs o (domK b.doms l fun _=>none):=by unfold askR;rw [ho];rfl
 rw [← eo] at hsp
 refine ⟨hsp.1,fun t ht=>⟨hsp.2 t ht (List.mem_map.2 ⟨t,ht,rfl⟩),fun hall=>?_⟩⟩
 have hg:=jg6 hgt ht
 have hb:=hbox t ht
 have hil:t.ins.length≤3:=(jf4.1 (jbi.1 hg).2.2.2.1).2.1
 have hgb:=ynv hgd hgt hb hil
 have hdn:(b.doms.map (·.1)).Nodup:=by
  have hgd':=hgd
  unfold jda at hgd';rw [Bool.and_eq_true] at hgd';exact jfo hgd'.2
 have hhas:jaj (boxL b t.ins) (t.ins.map (numA (askR b l)))=true:=by
  refine yhc fun s hs=>?_
  obtain ⟨r,hr,_,hfrom⟩:=jzk hgd hgt (List.all_eq_true.1 hb s hs)
  have hfs:=List.all_eq_true.1 hall s hs
  rw [hr,Option.getD_some,joj]
  refine ⟨r,by simp,?_⟩
  rcases hfrom with ⟨d,hd,rfl,hfd,rfl⟩ | ⟨hfd,u,hu,rfl,rfl⟩
  ·have hnt:d.1 ∉ ja3 b.tabs:=by
    intro hm
    obtain ⟨u,hu,e⟩:=List.mem_map.1 hm
    have:=jrm hgt hu
    rw [e,hfd] at this;cases this
   obtain ⟨n,hn,hn1,hn2⟩:=yj4 (k:=fun _=>none) hdn hl.symm hi hd
   have e1:numA (askR b l) d.1=n:=by unfold numA;rw [hsp.1 _ hnt,hn];rfl
   rw [e1];exact ⟨hn1,hn2⟩
  ·have e2:=hsp.2 u hu (List.mem_map.2 ⟨u,hu,rfl⟩)
   unfold jck at hfs
   unfold numA
   rw [e2] at hfs ⊢
   simp only [Option.map_some,Option.getD_some] at hfs ⊢
   unfold jgl at hfs ⊢
   split at hfs
   ·rename_i h;rw [if_pos h];exact ymq (jg6 hgt hu) hfs
   ·cases hfs
 have hbt:=hbad t ht
 unfold badT at hbt
 split at hbt
 ·cases hbt
 ·rename_i hcl
  have h0:=(yby hg hgb hhas).2 (by simpa using hcl)
  refine ⟨h0,fun hcm=>?_⟩
  rw [hcm] at hbt
  split at hbt
  ·cases hbt
  ·rename_i hgp
   have hgp':(gapV t (boxL b t.ins)).2=false:=by simpa using hgp
   have:=(jvl hg hgb hhas).1
   cases hq:(jb5 t (t.ins.map (numA (askR b l)))).2.1
   ·exact absurd ⟨hgp',h0,hq⟩ this
   ·rfl
def ansL (b:BookD) (l:List Int):List AnsD:=b.tabs.map fun t=>(askR b l t.name).getD jjg
theorem yc4 {b:BookD} (hc:(ja6 b).2.2=0) {l:List Int} (hl:l.length=b.doms.length) (hi:jdf b.doms l=true):ansL b l=b.tabs.map fun t=>jgl (askR b l) t:=by
 refine List.map_congr_left fun t ht=>?_
 rw [((jnd hc hl hi).2 t ht).1];rfl
def jdy:List DomD→List Int→List Int
 | [],_=>[]
 | d :: ds,[]=>max d.2.1 (min 0 d.2.2) :: jdy ds []
 | d :: ds,n :: l=>max d.2.1 (min n d.2.2) :: jdy ds l
theorem jf1 {ds:List DomD}:∀ {l:List Int},(jdy ds l).length=ds.length:=by
 induction ds with
 | nil=>intro l;rfl
 | cons d ds ih=>intro l;cases l <;> simp [jdy,ih]
theorem jyi {ds:List DomD}:∀ {l:List Int},(∀ d,d∈ds→jef d=true)→jdf ds (jdy ds l)=true:=by
 induction ds with
 | nil=>intro l _;rfl
 | cons d ds ih =>
  intro l h
  have hd:=(jua.1 (h d List.mem_cons_self)).2.2.1
  have hr:=fun l=>@ih l (fun x hx=>h x (List.mem_cons_of_mem _ hx))
  cases l <;> simp only [jdy,jdf,Bool.and_eq_true,decide_eq_true_eq] <;> exact ⟨⟨by omega,by omega⟩,hr _⟩
def yak (l:List Int) (i:Nat) (d:DomD):Int:=max d.2.1 (min (l.getD i 0) d.2.2)
theorem yfb {ds:List DomD}:∀ {l:List Int} {k:Nat} {d:DomD},ds[k]? = some d→(jdy ds l)[k]? = some (yak l k d):=by
 induction ds with
 | nil=>intro l k d h;simp at h
 | cons a ds ih =>
  intro l k d h
  cases k with
  | zero =>
   simp at h;subst h
   cases l <;> simp [jdy,yak]
  | succ k =>
   simp at h
   cases l with
   | nil=>simp [jdy,ih h,yak]
   | cons n l=>simp [jdy,ih h,yak]
theorem ye2 {b:BookD} (hc:(ja6 b).2.2=0) (l:List Int):askV b (jdy b.doms l)=(ansL b (jdy b.doms l),0):=by
 have hg:=(jfx hc).2.2.1
 unfold askV
 rw [if_neg (by simp [hc]),if_neg (by simp [jf1]),jyi (fun d hd=>js8 hg hd)]
 rfl
theorem jsj {ts:List TabD} (hn:(ja3 ts).Nodup) {l:List ByteArray} (h:je4 ts=some l):l.length=ts.length:=by
 rw [(jf8 hn h).length hn];simp [ja3]
end Go.Proofs.YthmlndmlnlfhnaaGreatDoor
