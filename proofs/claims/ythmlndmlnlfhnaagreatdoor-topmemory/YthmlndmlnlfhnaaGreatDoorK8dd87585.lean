import Derived.Test.YthmlndmlnlfhnaaGreatDoorK1a2ce33c
set_option maxRecDepth 100000
set_option maxHeartbeats 16000000
namespace Go.Proofs.YthmlndmlnlfhnaaGreatDoor
open Go.RowKit Go.Shelf
def Kin (v v':Value):Prop:=v'=v∨(∃ s s',v = .string s∧v' = .string s')∨(∃ k a b,v = .int k a∧v' = .int k b)∨∃ a b,v = .bool a∧v' = .bool b
theorem Kin.refl (v:Value):Kin v v:=.inl rfl
theorem Kin.strs (s t:ByteArray):Kin (.string s) (.string t):=.inr (.inl ⟨_,_,rfl,rfl⟩)
theorem Kin.ints (k:IntKind) (a b:Int):Kin (.int k a) (.int k b):=.inr (.inr (.inl ⟨_,_,_,rfl,rfl⟩))
theorem Kin.bools (a b:Bool):Kin (.bool a) (.bool b):=.inr (.inr (.inr ⟨_,_,rfl,rfl⟩))
theorem Kin.trans {a b c:Value} (h1:Kin a b) (h2:Kin b c):Kin a c:=by
 rcases h1 with rfl | ⟨s,s',rfl,rfl⟩ | ⟨k,x,y,rfl,rfl⟩ | ⟨x,y,rfl,rfl⟩
 ·exact h2
 ·rcases h2 with rfl | ⟨t,t',e,rfl⟩ | ⟨k,x,y,e,rfl⟩ | ⟨x,y,e,rfl⟩
  ·exact Kin.strs _ _
  ·exact Kin.strs _ _
  ·cases e
  ·cases e
 ·rcases h2 with rfl | ⟨t,t',e,rfl⟩ | ⟨k',u,v,e,rfl⟩ | ⟨u,v,e,rfl⟩
  ·exact Kin.ints _ _ _
  ·cases e
  ·injection e with e1 e2;subst e1;exact Kin.ints _ _ _
  ·cases e
 ·rcases h2 with rfl | ⟨t,t',e,rfl⟩ | ⟨k',u,v,e,rfl⟩ | ⟨u,v,e,rfl⟩
  ·exact Kin.bools _ _
  ·cases e
  ·cases e
  ·exact Kin.bools _ _
structure Spoil (lo:Nat) (w w':World):Prop where
 le:lo≤w.heap.size
 below:Below lo w w'
 cell:∀ b o v,w.cell? ⟨b,o,none⟩=some v→∃ v',w'.cell? ⟨b,o,none⟩=some v'∧Kin v v'
 unf:∀ b o,b<w.heap.size→w'.frozen? ⟨b,o,none⟩=w.frozen? ⟨b,o,none⟩
section
variable {lo b o:Nat} {w w1 w2:World}
theorem Spoil.refl (h:lo≤w.heap.size):Spoil lo w w:=⟨h,Below.refl _ _,fun _ _ v hv=>⟨v,hv,Kin.refl v⟩,fun _ _ _=>rfl⟩
theorem Spoil.next (h:Spoil lo w w1) (hb:Below w1.heap.size w1 w2):Spoil lo w w2 :=
 ⟨h.le,h.below.trans (hb.mono (Nat.le_trans h.le h.below.size)),fun b o v hv=>by
  obtain ⟨v',h1,h2⟩:=h.cell b o v hv
  exact ⟨v',(hb.cell (World.block_lt_of_cell? w1 _ h1)).trans h1,h2⟩,fun b o hlt=>(World.frozen?_of_block (hb.block b (Nat.lt_of_lt_of_le hlt h.below.size))).trans (h.unf b o hlt)⟩
theorem Spoil.trans (h:Spoil lo w w1) (h':Spoil lo w1 w2):Spoil lo w w2 :=
 ⟨h.le,h.below.trans h'.below,fun b o v hv=>by
  obtain ⟨v',h1,h2⟩:=h.cell b o v hv
  obtain ⟨v2,h3,h4⟩:=h'.cell b o v' h1
  exact ⟨v2,h3,h2.trans h4⟩,fun b o hlt=>(h'.unf b o (Nat.lt_of_lt_of_le hlt h.below.size)).trans (h.unf b o hlt)⟩
theorem Spoil.set {u v:Value} (h:Spoil lo w w1) (hb:lo≤b) (hc:w1.cell? ⟨b,o,none⟩=some u) (hk:Kin u v):Spoil lo w (w1.setCell ⟨b,o,none⟩ v) :=
 ⟨h.le,h.below.setCell hb _,fun b' o' x hx=>by
  obtain ⟨y,h1,h2⟩:=h.cell b' o' x hx
  by_cases e:(⟨b,o,none⟩:Addr) = ⟨b',o',none⟩
  ·injection e with e1 e2
   subst e1 e2
   rw [h1] at hc
   injection hc with hc
   subst hc
   exact ⟨v,World.cell?_setCell_same _ _ _ h1,h2.trans hk⟩
  ·exact ⟨y,(World.cell?_setCell_other _ _ _ _ e).trans h1,h2⟩,fun b' o' hlt=>by rw [World.frozen?_setCell];exact h.unf b' o' hlt⟩
theorem Spoil.sl {A:Option Addr} {n c:Nat} (h:Spoil lo w w1) (hc:w.cell? ⟨b,o,none⟩=some (.slice A n c)):w1.cell? ⟨b,o,none⟩=some (.slice A n c):=by
 obtain ⟨v,h1,h2⟩:=h.cell b o _ hc
 rcases h2 with rfl | ⟨_,_,e,_⟩ | ⟨_,_,_,e,_⟩ | ⟨_,_,e,_⟩
 ·exact h1
 ·cases e
 ·cases e
 ·cases e
theorem Spoil.str {s:ByteArray} (h:Spoil lo w w1) (hc:w.cell? ⟨b,o,none⟩=some (.string s)):∃ s',w1.cell? ⟨b,o,none⟩=some (.string s'):=by
 obtain ⟨v,h1,h2⟩:=h.cell b o _ hc
 rcases h2 with rfl | ⟨_,s',_,rfl⟩ | ⟨_,_,_,e,_⟩ | ⟨_,_,e,_⟩
 ·exact ⟨_,h1⟩
 ·exact ⟨s',h1⟩
 ·cases e
 ·cases e
theorem Spoil.int {k:IntKind} {i:Int} (h:Spoil lo w w1) (hc:w.cell? ⟨b,o,none⟩=some (.int k i)):∃ i',w1.cell? ⟨b,o,none⟩=some (.int k i'):=by
 obtain ⟨v,h1,h2⟩:=h.cell b o _ hc
 rcases h2 with rfl | ⟨_,_,e,_⟩ | ⟨_,_,i',e,rfl⟩ | ⟨_,_,e,_⟩
 ·exact ⟨_,h1⟩
 ·cases e
 ·injection e with e1 e2;subst e1;exact ⟨i',h1⟩
 ·cases e
theorem Spoil.bool {x:Bool} (h:Spoil lo w w1) (hc:w.cell? ⟨b,o,none⟩=some (.bool x)):∃ x',w1.cell? ⟨b,o,none⟩=some (.bool x'):=by
 obtain ⟨v,h1,h2⟩:=h.cell b o _ hc
 rcases h2 with rfl | ⟨_,_,e,_⟩ | ⟨_,_,_,e,_⟩ | ⟨_,x',_,rfl⟩
 ·exact ⟨_,h1⟩
 ·cases e
 ·cases e
 ·exact ⟨x',h1⟩
theorem Spoil.free (h:Spoil lo w w1) (hu:jg7 lo w b) (o:Nat):w1.frozen? ⟨b,o,none⟩=false:=(h.unf b o hu.2.1).trans (hu.2.2 o)
end
theorem OwnU.grown2 {α:Type} {E:Enc α} {w w':World} {base lo e:Nat} {v v':Value} {l:List α} {y z:α} {us cs ds:List Value} (h1:w.ownsRow base e E.size v l.length us) (h2:jb9 E w (OffU lo w v) l us) (ho:w'.ownsRow base e E.size v' (l.length+2) (us ++ (cs ++ ds))) (hg:w.grownBy w' v.ownBlock) (hm:jed w v v') (hy:E.rd w (OffU lo w v) y cs) (hz:E.rd w (OffU lo w v) z ds):OwnU E w' base lo e v' (l ++ [y,z]) :=
 ⟨us ++ (cs ++ ds),by rw [List.length_append];exact ho,((h2.append (show jb9 E w (OffU lo w v) [y,z] (cs ++ ds) from (jb9.one hy).append (jb9.one hz) (by rw [E.len hy];simp)) h1.1).keep (w':=w') fun p hp=>World.cell?_of_block (OffU.grown hg hm _ hp).2).more fun k hk=>(OffU.grown hg hm k hk).1⟩
structure Other (w0 W:World) (c:Nat→Nat) (ob:Nat) (τ:StoreD) (g':Nat) (c':Nat→Nat) (vs':List Value) (vl':Value):Prop where
 cs:Cs W ob [.pointer (some ⟨g',0,none⟩)]
 cob:c ob=0
 cob':c' ob=0
 obw:w0.heap.size≤ob
 two:Mine w0 W g' τ c' vs' vl'
 apart:∀ b,c b≠0→c' b=0
theorem Other.keep {w0 W W':World} {c c2:Nat→Nat} {ob:Nat} {τ:StoreD} {g':Nat} {c':Nat→Nat} {vs':List Value} {vl':Value} (h:Other w0 W c ob τ g' c' vs' vl') (hF:Fr c W W') (hc:∀ b,b<W.heap.size→c2 b=c b) (hb:Below w0.heap.size w0 W'):Other w0 W' c2 ob τ g' c' vs' vl' where
 cs:=h.cs.keep (hF.block _ h.cs.1 h.cob) hF.size
 cob:=(hc _ h.cs.1).trans h.cob
 cob':=h.cob'
 obw:=h.obw
 two:=⟨h.two.st.keep (fun b hb'=>hF.block b (h.two.st.lt b hb') (by
   by_cases e:c b=0
   ·exact e
   ·exact absurd (h.apart b e) hb')) hF.size,h.two.old,hb⟩
 apart:=fun b hb'=>by
  by_cases hlt:b<W.heap.size
  ·exact h.apart b (by rw [← hc b hlt];exact hb')
  ·exact jb1 h.two.st.lt (by omega)
def JMem (w0:World) (ob:Nat) (l:List ActD) (k:Nat) (W:World) (c:Nat→Nat):Prop:=∃ g' c' vs' vl',Other w0 W c ob (runV newV (l.take k)) g' c' vs' vl'
theorem JMem.keep {w0 W W':World} {ob k:Nat} {l:List ActD} {c c':Nat→Nat} (h:JMem w0 ob l k W c) (hF:Fr c W W') (hc:∀ b,b<W.heap.size→c' b=c b) (hb:Below w0.heap.size w0 W'):JMem w0 ob l k W' c':=by
 obtain ⟨g',c2,vs',vl',h⟩:=h
 exact ⟨g',c2,vs',vl',h.keep hF hc hb⟩
theorem TwoS.didH {w0 w w':World} {g g':Nat} {σ τ:StoreD} {c c':Nat→Nat} {vs vs':List Value} {vl vl':Value} {R:StoreD × ReplyD} {e:Ending} (h:TwoS w0 w g σ c vs vl g' τ c' vs' vl') (hP:jam w c g R e w') :
  ∃ A1 k1 A2 k2 d us ul,e = .returned (.agg #[.int .i64 R.2.code,.int .i64 R.2.n,.string R.2.text,.slice A1 R.2.answers.length k1,.slice A2 R.2.at_.length k2])∧TwoS w0 w' g R.1 d us ul g' τ c' vs' vl'∧Fr c w w'∧(∀ b,b<w.heap.size→d b=c b) ∧
   jb0 w' (Old w') R.2 (.agg #[.int .i64 R.2.code,.int .i64 R.2.n,.string R.2.text,.slice A1 R.2.answers.length k1,.slice A2 R.2.at_.length k2]):=by
 obtain ⟨A1,k1,A2,k2,d,us,ul,rfl,m,hF,hold,h5,h6⟩:=h.one.did hP
 refine ⟨A1,k1,A2,k2,d,us,ul,rfl,⟨m,⟨h.two.st.keep (fun b hb=>hF.block b (h.two.st.lt b hb) (h.flip.apart b hb)) hF.size,h.two.old,m.below⟩,fun b hb=>?_⟩,hF,hold,⟨_,_,rfl,h5.more fun _ hq=>hq.2.1,h6.more fun _ hq=>hq.2.1⟩⟩
 by_cases hlt:b<w.heap.size
 ·exact h.apart b (by rw [← hold b hlt];exact hb)
 ·exact jb1 h.two.st.lt (by omega)
end Go.Proofs.YthmlndmlnlfhnaaGreatDoor
