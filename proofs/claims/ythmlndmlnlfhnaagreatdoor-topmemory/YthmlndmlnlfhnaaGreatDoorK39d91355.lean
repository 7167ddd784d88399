import Derived.Test.YthmlndmlnlfhnaaGreatDoorK0e9c78ee
import Derived.Test.YthmlndmlnlfhnaaGreatDoorK3337f27c
set_option maxRecDepth 100000
set_option maxHeartbeats 16000000
namespace Go.Proofs.YthmlndmlnlfhnaaGreatDoor
open Go.RowKit Go.Shelf
def Im (c:Nat→Nat):Nat→Prop:=fun b=>c b=11
structure SessC (w:World) (c:Nat→Nat) (n:Nat) (x:SessD) (vd vt vg vr:Value):Prop where
 doms:Sl Enc.dom w (Im c) x.mine.doms vd
 tabs:Sl Enc.tab w (Im c) x.mine.tabs vt
 gone:OwnT w 0 vg x.gone
 goneC:∀ b,vg.ownBlock=some b→c b=3+2*n
 read:OwnT w 0 vr x.read
 readC:∀ b,vr.ownBlock=some b→c b=4+2*n
theorem SessC.keep {w w':World} {c c':Nat→Nat} {n:Nat} {x:SessD} {vd vt vg vr:Value} (h:SessC w c n x vd vt vg vr) (hk:∀ b,c b=11∨c b=3+2*n∨c b=4+2*n→w'.heap[b]? = w.heap[b]? ∧ c' b=c b):SessC w' c' n x vd vt vg vr where
 doms:=(h.doms.keep fun _ hp=>World.cell?_of_block (hk _ (.inl hp)).1).more fun b hb=>(hk b (.inl hb)).2.trans hb
 tabs:=(h.tabs.keep fun _ hp=>World.cell?_of_block (hk _ (.inl hp)).1).more fun b hb=>(hk b (.inl hb)).2.trans hb
 gone:=h.gone.keep fun b hb=>(hk b (.inr (.inl (h.goneC b hb)))).1
 goneC:=fun b hb=>((hk b (.inr (.inl (h.goneC b hb)))).2).trans (h.goneC b hb)
 read:=h.read.keep fun b hb=>(hk b (.inr (.inr (h.readC b hb)))).1
 readC:=fun b hb=>((hk b (.inr (.inr (h.readC b hb)))).2).trans (h.readC b hb)
def jpv (x:SessD) (vd vt vg vr:Value):List Value:=[.bool x.opn,.bool x.strict,.int .i64 x.frm,vd,vt,vg,vr]
def yi6 (w:World) (c:Nat→Nat) (n:Nat) (x:SessD) (vs:List Value):Prop :=
 ∃ vd vt vg vr,SessC w c n x vd vt vg vr∧∀ j v,(jpv x vd vt vg vr)[j]? = some v→vs[1+n*7+j]? = some v
structure StoreC (w:World) (c:Nat→Nat) (g:Nat) (σ:StoreD) (vs:List Value) (vl:Value):Prop where
 cs:Cs w g vs
 len:vs.length=30
 col:c g=1
 lt:∀ b,c b≠0→b<w.heap.size
 row:OwnS Enc.book w 0 (Im c) 38 vl σ.later
 rowC:∀ b,vl.ownBlock=some b→c b=2
 v0:vs[0]? = some vl
 sess:∀ n x,σ.sess[n]? = some x→yi6 w c n x vs
 acts:vs[29]? = some (.int .i64 σ.acts)
 inv:Inv σ
 one:∀ b,c b=1→b=g
def yqu (w:World) (c:Nat→Nat) (g:Nat) (σ:StoreD):Prop:=∃ vs vl,StoreC w c g σ vs vl
structure Fr (c:Nat→Nat) (w w':World):Prop where
 os:w'.os=w.os
 tape:w'.tape=w.tape
 output:w'.output=w.output
 size:w.heap.size≤w'.heap.size
 block:∀ k,k<w.heap.size→c k=0→w'.heap[k]? = w.heap[k]?
section
variable {w w' w2:World} {c c':Nat→Nat} {g:Nat} {σ:StoreD} {vs:List Value} {vl:Value}
theorem Fr.refl (c:Nat→Nat) (w:World):Fr c w w:=⟨rfl,rfl,rfl,Nat.le_refl _,fun _ _ _=>rfl⟩
theorem Fr.below (h:Below w.heap.size w w'):Fr c w w':=⟨h.os,h.tape,h.output,h.size,fun k hk _=>h.block k hk⟩
theorem Fr.trans (h:Fr c w w') (h':Fr c' w' w2) (hc:∀ b,b<w.heap.size→c' b=c b):Fr c w w2 :=
 ⟨h'.os.trans h.os,h'.tape.trans h.tape,h'.output.trans h.output,Nat.le_trans h.size h'.size,fun k hk h0=>(h'.block k (Nat.lt_of_lt_of_le hk h.size) ((hc k hk).trans h0)).trans (h.block k hk h0)⟩
theorem Fr.set (c:Nat→Nat) (w:World) (b o:Nat) (v:Value) (h:c b≠0):Fr c w (w.setCell ⟨b,o,none⟩ v) :=
 ⟨rfl,rfl,rfl,by simp [World.setCell],fun k _ h0=>RowKit.Below.heap_setCell _ _ _ _ (show k≠b from fun e=>h (e ▸ h0))⟩
theorem StoreC.keep (h:StoreC w c g σ vs vl) (hk:∀ b,c b≠0→w'.heap[b]? = w.heap[b]?) (hs:w.heap.size≤w'.heap.size):StoreC w' c g σ vs vl where
 cs:=h.cs.keep (hk g (by rw [h.col];decide)) hs
 len:=h.len
 col:=h.col
 lt:=fun b hb=>Nat.lt_of_lt_of_le (h.lt b hb) hs
 row:=h.row.keep (fun k hk'=>hk k (by rw [h.rowC k hk'];decide)) (fun k hk'=>hk k (by rw [show c k=11 from hk'];decide))
 rowC:=h.rowC
 v0:=h.v0
 sess:=fun n x hx=>by
  obtain ⟨vd,vt,vg,vr,h1,h2⟩:=h.sess n x hx
  exact ⟨vd,vt,vg,vr,h1.keep fun b hb=>⟨hk b (by omega),rfl⟩,h2⟩
 acts:=h.acts
 inv:=h.inv
 one:=h.one
theorem StoreC.next (h:StoreC w c g σ vs vl) (hb:Below w.heap.size w w'):StoreC w' c g σ vs vl:=h.keep (fun b hb'=>hb.block b (h.lt b hb')) hb.size
def jf9 (c:Nat→Nat) (lo hi k:Nat):Nat→Nat:=fun b=>if lo≤b∧b<hi then k else c b
theorem ju2 {lo hi k b:Nat} (h:b<lo):jf9 c lo hi k b=c b:=by unfold jf9;rw [if_neg (by omega)]
theorem yb5 {lo hi k b:Nat} (h1:lo≤b) (h2:b<hi):jf9 c lo hi k b=k:=by unfold jf9;rw [if_pos ⟨h1,h2⟩]
theorem StoreC.setSess (h:StoreC w c g σ vs vl) {n:Nat} {x:SessD} {vs':List Value} {vd vt vg vr:Value} (hn:n<4)
  (hcs:Cs w' g vs') (hlen:vs'.length=30)
  (hk:∀ b,c b≠0→c b≠1→c b≠3+2*n→c b≠4+2*n→w'.heap[b]? = w.heap[b]? ∧ c' b=c b)
  (hg:c' g=1) (hone:∀ b,c' b=1→b=g) (hlt:∀ b,c' b≠0→b<w'.heap.size) (hvs:∀ j,j<1+n*7∨8+n*7≤j→vs'[j]? = vs[j]?)
  (hC:SessC w' c' n x vd vt vg vr) (hL:∀ j v,(jpv x vd vt vg vr)[j]? = some v→vs'[1+n*7+j]? = some v) (hinv:Inv (jaq σ n x)):StoreC w' c' g (jaq σ n x) vs' vl where
 cs:=hcs
 len:=hlen
 col:=hg
 lt:=hlt
 row:=(h.row.keep (fun k hk'=>(hk k (by rw [h.rowC k hk'];decide) (by rw [h.rowC k hk'];decide) (by rw [h.rowC k hk'];omega) (by rw [h.rowC k hk'];omega)).1) (fun k hk'=>by
  have e:c k=11:=hk'
  exact (hk k (by omega) (by omega) (by omega) (by omega)).1)).more fun k hk'=>by
  have e:c k=11:=hk'
  exact ((hk k (by omega) (by omega) (by omega) (by omega)).2).trans e
 rowC:=fun b hb=>by
  have e:=h.rowC b hb
  exact ((hk b (by omega) (by omega) (by omega) (by omega)).2).trans e
 v0:=(hvs 0 (by omega)).trans h.v0
 sess:=fun m y hy=>by
  have hy':(σ.sess.set n x)[m]? = some y:=hy
  have hl4:σ.sess.length=4:=h.inv.four
  by_cases e:n=m
  ·subst e
   rw [List.getElem?_set_self (by omega)] at hy'
   injection hy' with hy'
   subst hy'
   exact ⟨vd,vt,vg,vr,hC,hL⟩
  ·rw [List.getElem?_set_ne e] at hy'
   have hm:m<4:=by have:=(List.getElem?_eq_some_iff.1 hy').1;omega
   obtain ⟨vd',vt',vg',vr',h1,h2⟩:=h.sess m y hy'
   refine ⟨vd',vt',vg',vr',h1.keep fun b hb=>hk b (by omega) (by omega) (by omega) (by omega),fun j v hj=>?_⟩
   have hjl:j<7:=by have:=(List.getElem?_eq_some_iff.1 hj).1;simpa [jpv] using this
   rw [hvs _ (by omega)]
   exact h2 j v hj
 acts:=(hvs 29 (by omega)).trans h.acts
 inv:=hinv
 one:=hone
end
theorem StoreC.sessAt {w:World} {c:Nat→Nat} {g:Nat} {σ:StoreD} {vs:List Value} {vl:Value} (h:StoreC w c g σ vs vl) {n:Nat} {x:SessD} (hx:σ.sess[n]? = some x) :
  ∃ vd vt vg vr,SessC w c n x vd vt vg vr∧n<4∧(∀ j v,(jpv x vd vt vg vr)[j]? = some v→vs[1+n*7+j]? = some v)∧∀ j v,(jpv x vd vt vg vr)[j]? = some v→w.cell? ⟨g,1+n*7+j,none⟩=some v∧w.frozen? ⟨g,1+n*7+j,none⟩=false:=by
 obtain ⟨vd,vt,vg,vr,h1,h2⟩:=h.sess n x hx
 have hn:n<4:=by have:=(List.getElem?_eq_some_iff.1 hx).1;have:=h.inv.four;omega
 exact ⟨vd,vt,vg,vr,h1,hn,h2,fun j v hj=>⟨h.cs.2.1 _ v (h2 j v hj),h.cs.2.2 _ (by have:=(List.getElem?_eq_some_iff.1 (h2 j v hj)).1;exact this)⟩⟩
def jb0 (w:World) (S:Nat→Prop) (r:ReplyD) (v:Value):Prop:=∃ va vt,v = .agg #[.int .i64 r.code,.int .i64 r.n,.string r.text,va,vt]∧Sl Enc.ans w S r.answers va∧Sl Enc.int w S r.at_ vt
theorem jb0.plain {w:World} {S:Nat→Prop} (a b:Int) (s:ByteArray):jb0 w S ⟨a,b,s,[],[]⟩ (.agg #[.int .i64 a,.int .i64 b,.string s,.slice none 0 0,.slice none 0 0]):=⟨_,_,rfl,Sl.nil,Sl.nil⟩
def jam (w:World) (c:Nat→Nat) (g:Nat) (R:StoreD × ReplyD) (e:Ending) (w':World):Prop :=
 ∃ c' v,e = .returned v∧yqu w' c' g R.1∧(∀ b,b<w.heap.size→c' b=c b)∧Fr c w w'∧jb0 w' (fun b=>w.heap.size≤b∧b<w'.heap.size∧c' b=0) R.2 v
theorem StoreC.wrote {w w2 w4:World} {c:Nat→Nat} {g n lo base:Nat} {σ:StoreD} {vs:List Value} {vl vd vt vg vr vd' vt' v4:Value} {x:SessD} {S:Nat→Prop} {mine':BookD} {gone':List ByteArray} (h:StoreC w c g σ vs vl) (hn:n<4)
  (hC:SessC w c n x vd vt vg vr) (hL:∀ j v,(jpv x vd vt vg vr)[j]? = some v→vs[1+n*7+j]? = some v) (hlo:w.heap.size≤lo) (hlo2:lo≤w2.heap.size) (hb2:Below w.heap.size w w2)
  (hS:∀ b,S b→Im c b∨(lo≤b∧b<w2.heap.size)) (hbase:lo≤base) (hN:jli w2 base S mine' (.agg #[vd',vt']))
  (hO:OwnT w4 0 v4 gone') (hg:((w2.setCell ⟨g,1+n*7+3,none⟩ vd').setCell ⟨g,1+n*7+4,none⟩ vt').grownBy w4 vg.ownBlock) (hm:jed ((w2.setCell ⟨g,1+n*7+3,none⟩ vd').setCell ⟨g,1+n*7+4,none⟩ vt') vg v4)
  (hI:Inv (jaq σ n { x with mine:=mine',gone:=gone' })) :
  ∃ c',StoreC (w4.setCell ⟨g,1+n*7+5,none⟩ v4) c' g (jaq σ n { x with mine:=mine',gone:=gone' }) (((vs.set (1+n*7+3) vd').set (1+n*7+4) vt').set (1+n*7+5) v4) vl∧(∀ b,b<lo→c' b=c b)∧Fr c w (w4.setCell ⟨g,1+n*7+5,none⟩ v4):=by
 have hgl:g<w.heap.size:=h.cs.1
 have hgC:∀ b,c b≠1→b≠g:=fun b hb e=>hb (by rw [e];exact h.col)
 obtain ⟨w3,hw3⟩:∃ w3,w3=(w2.setCell ⟨g,1+n*7+3,none⟩ vd').setCell ⟨g,1+n*7+4,none⟩ vt':=⟨_,rfl⟩
 have h3:∀ b,b≠g→w3.heap[b]? = w2.heap[b]?:=fun b hb=>by rw [hw3,RowKit.Below.heap_setCell _ _ _ _ hb,RowKit.Below.heap_setCell _ _ _ _ hb]
 have hz3:w3.heap.size=w2.heap.size:=by rw [hw3];simp [World.setCell]
 have hz2:=hb2.size
 rw [← hw3] at hg hm
 have hz4:=hg.size
 have hvg:∀ b,vg.ownBlock=some b→c b=3+2*n:=hC.goneC
 have hgv:vg.ownBlock≠some g:=fun e=>by have:=hvg g e;rw [h.col] at this;omega
 have h4:∀ b,b≠g→c b≠3+2*n→b<w2.heap.size→w4.heap[b]? = w2.heap[b]?:=fun b hb hc hlt=>(hg.block b (by omega) (fun e=>hc (hvg b e.symm))).trans (h3 b hb)
 have h5:∀ b,b≠g→(w4.setCell ⟨g,1+n*7+5,none⟩ v4).heap[b]? = w4.heap[b]?:=fun b hb=>RowKit.Below.heap_setCell _ _ _ _ hb
 have hz5:(w4.setCell ⟨g,1+n*7+5,none⟩ v4).heap.size=w4.heap.size:=by simp [World.setCell]
 have hlen:=h.len
 have hcw:∀ b,c b≠0→b<w.heap.size:=h.lt
 have hvb:∀ b,v4.ownBlock=some b→(b<w.heap.size∧c b=3+2*n)∨w2.heap.size≤b:=fun b hb=>by
  rcases hm b hb with e | e
  ·exact .inl ⟨hcw b (by rw [hvg b e];omega),hvg b e⟩
  ·exact .inr (by omega)
 have CS2:Cs w2 g vs:=h.cs.next hb2
 have CS3:Cs w3 g ((vs.set (1+n*7+3) vd').set (1+n*7+4) vt'):=by rw [hw3];exact (CS2.set _ (by omega) _).set _ (by simp;omega) _
 have CS4:Cs w4 g ((vs.set (1+n*7+3) vd').set (1+n*7+4) vt'):=CS3.grownO hg hgv
 let c':Nat→Nat:=fun b=>if v4.ownBlock=some b then 3+2*n else jf9 c lo w2.heap.size 11 b
 have hold:∀ b,b<lo→c' b=c b:=fun b hb=>by
  show (if v4.ownBlock=some b then 3+2*n else jf9 c lo w2.heap.size 11 b)=c b
  split
  ·rename_i e
   rcases hvb b e with h | h
   ·exact h.2.symm
   ·omega
  ·exact ju2 hb
 have hpc:∀ b,v4.ownBlock≠some b→c' b=jf9 c lo w2.heap.size 11 b:=fun b hb=>if_neg hb
 have hpv:∀ b,v4.ownBlock=some b→c' b=3+2*n:=fun b hb=>if_pos hb
 have hcol:∀ b,c' b≠0→b<w4.heap.size:=fun b hb=>by
  by_cases e:v4.ownBlock=some b
  ·exact (hO.lt b e).2
  ·rw [hpc b e] at hb
   unfold jf9 at hb
   split at hb
   ·omega
   ·have:=hcw b hb;omega
 have hkeep:∀ b,c b≠0→c b≠1→c b≠3+2*n→(w4.setCell ⟨g,1+n*7+5,none⟩ v4).heap[b]? = w.heap[b]? ∧ c' b=c b:=fun b h0 h1 h2=>by
  have hb:=hcw b h0
  exact ⟨(h5 b (hgC b h1)).trans ((h4 b (hgC b h1) h2 (by omega)).trans (hb2.block b hb)),hold b (by omega)⟩
 obtain ⟨vdd,vtt,e,o1,o2,_⟩:=hN
 injection e with e
 injection e with e
 injection e with e7 e8
 injection e8 with e8 _
 subst e7 e8
 have hnew:∀ b,lo≤b→b<w2.heap.size→(w4.setCell ⟨g,1+n*7+5,none⟩ v4).heap[b]? = w2.heap[b]? ∧ c' b=11:=fun b hb1 hb2'=>by
  have hbg:b≠g:=by omega
  have hc0:c b=0:=by
   by_cases h0:c b=0
   ·exact h0
   ·have:=hcw b h0;omega
  refine ⟨(h5 b hbg).trans (h4 b hbg (by omega) hb2'),?_⟩
  rw [hpc b (fun e=>by rcases hvb b e with h | h <;> omega)]
  exact yb5 hb1 hb2'
 have hI11:∀ b,Im c b→(w4.setCell ⟨g,1+n*7+5,none⟩ v4).heap[b]? = w2.heap[b]? ∧ c' b=11:=fun b hb=>by
  have hb':c b=11:=hb
  have hk:=hkeep b (by omega) (by omega) (by omega)
  exact ⟨hk.1.trans (hb2.block b (hcw b (by omega))).symm,hk.2.trans hb'⟩
 have hSS:∀ b,S b→(w4.setCell ⟨g,1+n*7+5,none⟩ v4).heap[b]? = w2.heap[b]? ∧ c' b=11:=fun b hb=>by
  rcases hS b hb with h | h
  ·exact hI11 b h
  ·exact hnew b h.1 h.2
 refine ⟨c',h.setSess hn (CS4.set _ (by simp;omega) _) (by simp [hlen]) (fun b h0 h1 h2 h3=>hkeep b h0 h1 h2) ?_ ?_ (fun b hb=>by rw [hz5];exact hcol b hb) ?_ (vd:=vd') (vt:=vt') (vg:=v4) (vr:=vr) ⟨?_,?_,?_,fun b hb=>hpv b hb,?_,?_⟩ ?_ hI,hold,?_⟩
 ·rw [hold g (by omega)];exact h.col
 ·intro b hb
  by_cases e:v4.ownBlock=some b
  ·rw [hpv b e] at hb;omega
  ·rw [hpc b e] at hb
   unfold jf9 at hb
   split at hb
   ·omega
   ·exact h.one b hb
 ·intro j hj
  rw [List.getElem?_set_ne (by omega),List.getElem?_set_ne (by omega),List.getElem?_set_ne (by omega)]
 ·exact (ju1 (S:=fun b=>base≤b∧b<w2.heap.size) o1 (fun b hb=>World.ownsRow.lt o1 b hb)).keep (fun p hp=>World.cell?_of_block (hnew _ (by have:=hp.1;omega) hp.2).1) |>.more fun b hb=>(hnew b (by have:=hb.1;omega) hb.2).2
 ·have hsl:=o2.sl (S':=fun b=>(base≤b∧b<w2.heap.size)∨S b) (fun b hb=>.inl (o2.lt b hb)) (fun b hb=>.inr hb)
  refine (hsl.keep (w':=w4.setCell ⟨g,1+n*7+5,none⟩ v4) fun p hp=>World.cell?_of_block ?_).more fun b hb=>?_
  ·rcases hp with hp | hp
   ·exact (hnew _ (by have:=hp.1;omega) hp.2).1
   ·exact (hSS _ hp).1
  ·rcases hb with hb | hb
   ·exact (hnew _ (by have:=hb.1;omega) hb.2).2
   ·exact (hSS _ hb).2
 ·exact hO.keep fun b hb=>h5 b (fun e=>by
   rcases hvb b hb with h' | h'
   ·rw [e,h.col] at h';omega
   ·omega)
 ·refine hC.read.keep fun b hb=>?_
  have e:=hC.readC b hb
  exact (hkeep b (by omega) (by omega) (by omega)).1
 ·intro b hb
  have e:=hC.readC b hb
  exact ((hkeep b (by omega) (by omega) (by omega)).2).trans e
 ·intro j v hj
  match j with
  | 0=>rw [List.getElem?_set_ne (by omega),List.getElem?_set_ne (by omega),List.getElem?_set_ne (by omega)];exact hL 0 v hj
  | 1=>rw [List.getElem?_set_ne (by omega),List.getElem?_set_ne (by omega),List.getElem?_set_ne (by omega)];exact hL 1 v hj
  | 2=>rw [List.getElem?_set_ne (by omega),List.getElem?_set_ne (by omega),List.getElem?_set_ne (by omega)];exact hL 2 v hj
  | 3=>rw [List.getElem?_set_ne (by omega),List.getElem?_set_ne (by omega),List.getElem?_set_self (by omega)];exact hj
  | 4=>rw [List.getElem?_set_ne (by omega),List.getElem?_set_self (by simp;omega)];exact hj
  | 5=>rw [List.getElem?_set_self (by simp;omega)];exact hj
  | 6=>rw [List.getElem?_set_ne (by omega),List.getElem?_set_ne (by omega),List.getElem?_set_ne (by omega)];exact hL 6 v hj
  | j+7=>simp [jpv] at hj
 ·refine ⟨?_,?_,?_,by omega,fun b hb h0=>?_⟩
  ·show w4.os=_;rw [hg.os,hw3];exact hb2.os
  ·show w4.tape=_;rw [hg.tape,hw3];exact hb2.tape
  ·show w4.output=_;rw [hg.output,hw3];exact hb2.output
  ·have hbg:b≠g:=fun e=>by rw [e,h.col] at h0;omega
   rw [h5 b hbg,h4 b hbg (by omega) (by omega),hb2.block b hb]
theorem StoreC.readS {w w4:World} {c:Nat→Nat} {g n:Nat} {σ:StoreD} {vs:List Value} {vl vd vt vg vr v4:Value} {x:SessD} {read':List ByteArray} (h:StoreC w c g σ vs vl) (hn:n<4)
  (hC:SessC w c n x vd vt vg vr) (hL:∀ j v,(jpv x vd vt vg vr)[j]? = some v→vs[1+n*7+j]? = some v)
  (hO:OwnT w4 0 v4 read') (hg:w.grownBy w4 vr.ownBlock) (hm:jed w vr v4) (hI:Inv (jaq σ n { x with read:=read' })) :
  ∃ c',StoreC (w4.setCell ⟨g,1+n*7+6,none⟩ v4) c' g (jaq σ n { x with read:=read' }) (vs.set (1+n*7+6) v4) vl∧(∀ b,b<w.heap.size→c' b=c b)∧(∀ b,c' b≠0→c b≠0∨v4.ownBlock=some b)∧Fr c w (w4.setCell ⟨g,1+n*7+6,none⟩ v4)∧SessC (w4.setCell ⟨g,1+n*7+6,none⟩ v4) c' n { x with read:=read' } vd vt vg v4∧∀ j v,(jpv { x with read:=read' } vd vt vg v4)[j]? = some v→(vs.set (1+n*7+6) v4)[1+n*7+j]? = some v:=by
 have hgl:g<w.heap.size:=h.cs.1
 have hgC:∀ b,c b≠1→b≠g:=fun b hb e=>hb (by rw [e];exact h.col)
 have hz4:=hg.size
 have hvr:∀ b,vr.ownBlock=some b→c b=4+2*n:=hC.readC
 have hgv:vr.ownBlock≠some g:=fun e=>by have:=hvr g e;rw [h.col] at this;omega
 have h5:∀ b,b≠g→(w4.setCell ⟨g,1+n*7+6,none⟩ v4).heap[b]? = w4.heap[b]?:=fun b hb=>RowKit.Below.heap_setCell _ _ _ _ hb
 have hz5:(w4.setCell ⟨g,1+n*7+6,none⟩ v4).heap.size=w4.heap.size:=by simp [World.setCell]
 have hlen:=h.len
 have hcw:∀ b,c b≠0→b<w.heap.size:=h.lt
 have hvb:∀ b,v4.ownBlock=some b→(b<w.heap.size∧c b=4+2*n)∨w.heap.size≤b:=fun b hb=>by
  rcases hm b hb with e | e
  ·exact .inl ⟨hcw b (by rw [hvr b e];omega),hvr b e⟩
  ·exact .inr e
 let c':Nat→Nat:=fun b=>if v4.ownBlock=some b then 4+2*n else c b
 have hpc:∀ b,v4.ownBlock≠some b→c' b=c b:=fun b hb=>if_neg hb
 have hpv:∀ b,v4.ownBlock=some b→c' b=4+2*n:=fun b hb=>if_pos hb
 have hold:∀ b,b<w.heap.size→c' b=c b:=fun b hb=>by
  by_cases e:v4.ownBlock=some b
  ·rw [hpv b e]
   rcases hvb b e with h | h
   ·exact h.2.symm
   ·omega
  ·exact hpc b e
 have hkeep:∀ b,c b≠0→c b≠1→c b≠4+2*n→(w4.setCell ⟨g,1+n*7+6,none⟩ v4).heap[b]? = w.heap[b]? ∧ c' b=c b:=fun b h0 h1 h2=>by
  have hb:=hcw b h0
  exact ⟨(h5 b (hgC b h1)).trans (hg.block b hb (fun e=>h2 (hvr b e.symm))),hold b hb⟩
 have hSC:SessC (w4.setCell ⟨g,1+n*7+6,none⟩ v4) c' n { x with read:=read' } vd vt vg v4:=by
  refine ⟨?_,?_,?_,?_,?_,fun b hb=>hpv b hb⟩
  ·refine (hC.doms.keep fun _ hp=>World.cell?_of_block ?_).more fun b hb=>?_
   ·have e:c _=11:=hp
    exact (hkeep _ (by omega) (by omega) (by omega)).1
   ·have e:c b=11:=hb
    exact ((hkeep b (by omega) (by omega) (by omega)).2).trans e
  ·refine (hC.tabs.keep fun _ hp=>World.cell?_of_block ?_).more fun b hb=>?_
   ·have e:c _=11:=hp
    exact (hkeep _ (by omega) (by omega) (by omega)).1
   ·have e:c b=11:=hb
    exact ((hkeep b (by omega) (by omega) (by omega)).2).trans e
  ·refine hC.gone.keep fun b hb=>?_
   have e:=hC.goneC b hb
   exact (hkeep b (by omega) (by omega) (by omega)).1
  ·intro b hb
   have e:=hC.goneC b hb
   exact ((hkeep b (by omega) (by omega) (by omega)).2).trans e
  ·exact hO.keep fun b hb=>h5 b (fun e=>by
    rcases hvb b hb with h' | h'
    ·rw [e,h.col] at h';omega
    ·omega)
 have hLL:∀ j v,(jpv { x with read:=read' } vd vt vg v4)[j]? = some v→(vs.set (1+n*7+6) v4)[1+n*7+j]? = some v:=by
  intro j v hj
  match j with
  | 0=>rw [List.getElem?_set_ne (by omega)];exact hL 0 v hj
  | 1=>rw [List.getElem?_set_ne (by omega)];exact hL 1 v hj
  | 2=>rw [List.getElem?_set_ne (by omega)];exact hL 2 v hj
  | 3=>rw [List.getElem?_set_ne (by omega)];exact hL 3 v hj
  | 4=>rw [List.getElem?_set_ne (by omega)];exact hL 4 v hj
  | 5=>rw [List.getElem?_set_ne (by omega)];exact hL 5 v hj
  | 6=>rw [List.getElem?_set_self (by omega)];exact hj
  | j+7=>simp [jpv] at hj
 refine ⟨c',h.setSess hn ((h.cs.grownO hg hgv).set _ (by omega) _) (by simp [hlen]) (fun b h0 h1 h2 h3=>hkeep b h0 h1 h3) ?_ ?_ ?_ ?_ hSC hLL hI,hold,?_,?_,hSC,hLL⟩
 ·rw [hold g hgl];exact h.col
 ·intro b hb
  by_cases e:v4.ownBlock=some b
  ·rw [hpv b e] at hb;omega
  ·rw [hpc b e] at hb;exact h.one b hb
 ·intro b hb
  rw [hz5]
  by_cases e:v4.ownBlock=some b
  ·exact (hO.lt b e).2
  ·rw [hpc b e] at hb;have:=hcw b hb;omega
 ·intro j hj
  rw [List.getElem?_set_ne (by omega)]
 ·intro b hb
  by_cases e:v4.ownBlock=some b
  ·exact .inr e
  ·rw [hpc b e] at hb;exact .inl hb
 ·refine ⟨hg.os,hg.tape,hg.output,by omega,fun b hb h0=>?_⟩
  have hbg:b≠g:=fun e=>by rw [e,h.col] at h0;omega
  rw [h5 b hbg,hg.block b hb (fun e=>by have:=hvr b e.symm;omega)]
open Go.RowKit Go.Shelf
theorem StoreC.rowForm {w:World} {c:Nat→Nat} {g:Nat} {σ:StoreD} {vs:List Value} {vl:Value} (h:StoreC w c g σ vs vl):∃ A k,vl = .slice A σ.last k ∧ σ.last≤k∧k≤maxLen∧w.cell? ⟨g,0,none⟩=some vl:=by
 obtain ⟨us,h1,_⟩:=h.row
 obtain ⟨A,k,rfl,h2,h3,_⟩:=jah h1
 exact ⟨A,k,rfl,h2,h3,h.cs.2.1 0 _ h.v0⟩
theorem jgr (σ:StoreD) (c:Nat→Nat) (g:Nat) (vs:List Value) (vl:Value) (w:World) (h:StoreC w c g σ vs vl) :
  Calls Tryz.prog 45 #[.pointer (some ⟨g,0,none⟩)] w fun e w'=>e = .returned (.int .i64 σ.last)∧w'=w:=by
 obtain ⟨A,k,rfl,h1,h2,h3⟩:=h.rowForm
 generalize σ.last=L at *
 go_enter Tryz.func45,Tryz.ntmps45
 go_wp2
 go_ret
 exact ⟨rfl,rfl⟩
theorem jgs (σ:StoreD) (c:Nat→Nat) (g:Nat) (vs:List Value) (vl:Value) (w:World) (h:StoreC w c g σ vs vl) (n:Nat) (hn:n ≤ σ.last) :
  Calls Tryz.prog 47 #[.pointer (some ⟨g,0,none⟩),.int .i64 n] w fun e w'=>∃ vd vt,e = .returned (.agg #[vd,vt])∧jar w' (Im c) (σ.ver n) (.agg #[vd,vt])∧Below w.heap.size w w':=by
 have hz:=h.inv.some_
 have hlt:=h.lt
 have hrow:=h.row
 have hrC:=h.rowC
 obtain ⟨A,k,rfl,h1,h2,h3⟩:=h.rowForm
 have hg:g<w.heap.size:=h.cs.1
 have hb0:=jac w (.cells #[.slice none 0 0,.slice none 0 0] 38)
 have C0:=Lib.hid (Cs.new w [.slice none 0 0,.slice none 0 0] 38)
 change Hid (Cs (w.alloc (.cells #[.slice none 0 0,.slice none 0 0] 38)) _ _) at C0
 have r0:=C0.out.at 0 rfl
 have r1:=C0.out.at 1 rfl
 have f0:=C0.out.2.2 0 (by decide)
 have f1:=C0.out.2.2 1 (by decide)
 have k0:=(hb0.cell (p:=⟨g,0,none⟩) hg).trans h3
 generalize hw0:w.alloc (.cells #[.slice none 0 0,.slice none 0 0] 38)=w0 at *
 cases n with
 | zero =>
  have HV:Hid (σ.ver 0=jif):=rfl
  generalize σ.ver 0=R at *
  clear hrow hrC
  go_enter Tryz.func47,Tryz.ntmps47
  go_wp2
  (try simp only [Exit.inBlock,Exit.then])
  refine bodyPost_ret (jla (b:=w.heap.size) rfl rfl ((C0.out.set 0 (by simp) _).set 1 (by simp) _)) rfl ⟨_,_,rfl,?_,(hb0.setCell (by simp) _).setCell (by simp) _⟩
  rw [HV.out]
  exact ⟨_,_,rfl,Sl.nil,Sl.nil⟩
 | succ n =>
  have hx:σ.later[n]? = some (σ.ver (n+1)):=by
   unfold StoreD.ver StoreD.states
   rw [List.getElem?_cons_succ]
   unfold StoreD.last at hn
   rw [List.getElem?_eq_getElem (by omega)];rfl
  generalize σ.ver (n+1)=R at *
  have hsl:Sl Enc.book w (fun b=>c b=2∨c b=11) σ.later (.slice A σ.last k):=hrow.sl (fun b hb=>.inl (hrC b hb)) (fun b hb=>.inr hb)
  have hnl:n < σ.later.length:=(List.getElem?_eq_some_iff.1 hx).1
  obtain ⟨us,hu1,hu2⟩:=hrow
  obtain ⟨cs,⟨vd,vt,rfl,g1,g2⟩,d2⟩:=hu2 n R hx
  obtain ⟨gb,cap,cur,e,-,hgl,-,-,-⟩:=jzl hu1 (by omega)
  injection e with e1 e2 e3
  subst e1 e3
  have c0:=jti hu1 (d2 0 _ rfl)
  have c1:=jti hu1 (d2 1 _ rfl)
  have es:Enc.book.size=2:=rfl
  rw [es] at c0 c1
  have c0':w.cell? ⟨gb,n*2,none⟩=some vd:=c0
  have c1':w.cell? ⟨gb,n*2+1,none⟩=some vt:=c1
  have GD:=Lib.hid g1
  have GT:=Lib.hid g2
  obtain ⟨Ad,cd,rfl,-,-⟩:=g1.form
  obtain ⟨At,ct,rfl,-,-⟩:=g2.form
  have m0:=(hb0.cell (p:=⟨gb,n*2,none⟩) hgl).trans c0'
  have m1:=(hb0.cell (p:=⟨gb,n*2+1,none⟩) hgl).trans c1'
  have hL:σ.last = σ.later.length:=rfl
  have hnn:(n:Int)<(σ.last:Int):=by omega
  have hw1:IntKind.i64.wrap (((n+1:Nat):Int)-1)=(n:Int):=by rw [IntKind.wrap_i64];omega
  have hne:((((n+1:Nat):Int)) == 0)=false:=by rw [beq_eq_false_iff_ne];omega
  clear hsl hu1 hu2 d2 c0 c1 c0' c1' g1 g2 hx hL
  generalize σ.last=L at *
  generalize hN1:((n+1:Nat):Int)=N1 at *
  clear hN1
  go_enter Tryz.func47,Tryz.ntmps47
  go_wp2
  (try simp only [Exit.inBlock,Exit.then])
  refine bodyPost_ret (jla (b:=w.heap.size) rfl rfl ((C0.out.set 0 (by simp) _).set 1 (by simp) _)) rfl ⟨_,_,rfl,?_,(hb0.setCell (by simp) _).setCell (by simp) _⟩
  have hBB:Below w.heap.size w ((w0.setCell ⟨w.heap.size,0,none⟩ (.slice Ad R.doms.length cd)).setCell ⟨w.heap.size,1,none⟩ (.slice At R.tabs.length ct)):=(hb0.setCell (by simp) _).setCell (by simp) _
  exact ⟨_,_,rfl,GD.out.keep fun p hp=>hBB.cell (hlt _ (by rw [show c p.block=11 from hp];decide)),GT.out.keep fun p hp=>hBB.cell (hlt _ (by rw [show c p.block=11 from hp];decide))⟩
theorem jgh (σ:StoreD) (c:Nat→Nat) (g:Nat) (vs:List Value) (vl:Value) (w:World) (h:StoreC w c g σ vs vl) (n:Int) :
  Calls Tryz.prog 43 #[.pointer (some ⟨g,0,none⟩),.int .i64 n] w fun e w'=>e = .returned (.bool (jcp σ n))∧w'=w:=by
 have HE:Hid (jcp σ n=(decide (0≤n) && decide (n<4) && (σ.sessN n.toNat).opn)):=rfl
 generalize jcp σ n=R at *
 by_cases h0:0≤n
 ·by_cases h4:n<4
  ·obtain ⟨k,rfl⟩:∃ k:Nat,n=k:=⟨n.toNat,by omega⟩
   have hk:k<4:=by omega
   obtain ⟨vd,vt,vg,vr,-,-,-,hcell⟩:=h.sessAt (je5 h.inv hk)
   have c0:=(hcell 0 _ rfl).1
   have HR:Hid (R=(σ.sessN k).opn):=by show _=_;rw [HE.out];simp [h4]
   clear hcell HE
   generalize (σ.sessN k).opn=O at *
   have c0':w.cell? ⟨g,1+k*7,none⟩=some (.bool O):=c0
   clear c0
   go_enter Tryz.func43,Tryz.ntmps43
   go_wp2
   go_ret
   exact ⟨jad HR.out.symm,rfl⟩
  ·have HR:Hid (R=false):=by show _=_;rw [HE.out];simp [h4]
   have h4':¬ n<4:=h4
   clear HE
   go_enter Tryz.func43,Tryz.ntmps43
   go_wp2
   go_ret
   exact ⟨jad HR.out.symm,rfl⟩
 ·have HR:Hid (R=false):=by show _=_;rw [HE.out];simp [h0]
  have h0':n<0:=by omega
  clear HE
  go_enter Tryz.func43,Tryz.ntmps43
  go_wp2
  go_ret
  exact ⟨jad HR.out.symm,rfl⟩
open Go.RowKit Go.Shelf
theorem jaz {fn:Func} {p:Tmp} {tmps:Array Value} {W:World} {b:Nat} {x y z u v:Value} (h:fn.results = #[.cell p 30]) (hp:tmps.getD p undef = .pointer (some ⟨b,0,none⟩)) (ht:Cs W b [x,y,z,u,v]) :
  (results fn tmps).run Tryz.prog W = .ok (.agg #[x,y,z,u,v]) W:=by
 have q0:=ht.at 0 rfl
 have q1:=ht.at 1 rfl
 have q2:=ht.at 2 rfl
 have q3:=ht.at 3 rfl
 have q4:=ht.at 4 rfl
 have hp':tmps[p]?.getD undef = .pointer (some ⟨b,0,none⟩):=by simpa using hp
 simp [results,h,hp',go_sem,q0,q1,q2,q3,q4]
abbrev zeroRL:List Value:=[.int .i64 0,.int .i64 0,.string ⟨#[]⟩,.slice none 0 0,.slice none 0 0]
theorem jbs {w:World} {b:Nat} {a1 a2 a3 a4 a5:Value} (h:Cs w b [a1,a2,a3,a4,a5]) (x y z u v:Value):Cs (put5 w b x y z u v) b [x,y,z,u,v] :=
 ((((h.set 0 (by simp) x).set 1 (by simp) y).set 2 (by simp) z).set 3 (by simp) u).set 4 (by simp) v
theorem jl8 (w:World) (b:Nat) (x y z u v:Value):(put5 w b x y z u v).heap.size=w.heap.size:=by simp [put5,World.setCell]
theorem Fr.reply {c:Nat→Nat} {w W:World} {b:Nat} {x y z u v:Value} (h:Fr c w W) (hb:w.heap.size≤b):Fr c w (put5 W b x y z u v):=by
 have h5:=jls W b x y z u v
 exact ⟨h5.os.trans h.os,h5.tape.trans h.tape,h5.output.trans h.output,Nat.le_trans h.size h5.size,fun k hk h0=>(h5.block k (by omega)).trans (h.block k hk h0)⟩
theorem jam.wrote {w W:World} {c c':Nat→Nat} {g b0:Nat} {σ':StoreD} {vs:List Value} {vl:Value} {r:ReplyD} {x y z u v:Value} (h:StoreC W c' g σ' vs vl) (hold:∀ b,b<w.heap.size→c' b=c b) (hb0:w.heap.size≤b0) (hc:c' b0=0) (hF:Fr c w W)
  (hr:jb0 (put5 W b0 x y z u v) (fun b=>w.heap.size≤b∧b<(put5 W b0 x y z u v).heap.size∧c' b=0) r (.agg #[x,y,z,u,v])):jam w c g (σ',r) (.returned (.agg #[x,y,z,u,v])) (put5 W b0 x y z u v) :=
 ⟨c',_,rfl,⟨vs,vl,h.keep (fun b hb=>jhm _ _ _ _ _ _ _ _ (fun e=>hb (e ▸ hc))) (by rw [jl8];exact Nat.le_refl _)⟩,hold,hF.reply hb0,hr⟩
theorem yil (σ:StoreD) (c:Nat→Nat) (g n:Nat) (vs:List Value) (vl:Value) (x:SessD) (s:ByteArray) (w:World) (h:StoreC w c g σ vs vl) (hx:σ.sess[n]? = some x) (hs:s.size≤140737488355328) (hI:Inv (jaq σ n (jky x s).1)) :
  Calls Tryz.prog 71 #[.pointer (some ⟨g,1+n*7,none⟩),.string s] w (jam w c g (jaq σ n (jky x s).1,(jky x s).2)):=by
 have hSO:=h.inv.sess x (List.mem_of_getElem? hx)
 have hacts:=h.inv.acts
 obtain ⟨vd,vt,vg,vr,hC,hn,hL,hcell⟩:=h.sessAt hx
 have HH:=Lib.hid h
 have HC:=Lib.hid hC
 have HL:=Lib.hid hL
 have hgw:g<w.heap.size:=h.cs.1
 have HME:=Lib.hid hSO.mine
 have hds:=hSO.ds
 have hts:=hSO.ts
 have hgs:=hSO.gs
 have HRG:=Lib.hid hSO.gone
 have HCL:=Lib.hid h.lt
 obtain ⟨Ad,cd,rfl,-,-⟩:=hC.doms.form
 obtain ⟨At,ct,rfl,-,-⟩:=hC.tabs.form
 obtain ⟨Ag,cg,rfl,-,-,-⟩:=jah hC.gone
 have m3:w.cell? ⟨g,1+n*7+3,none⟩=some (.slice Ad x.mine.doms.length cd):=(hcell 3 _ rfl).1
 have m4:w.cell? ⟨g,1+n*7+4,none⟩=some (.slice At x.mine.tabs.length ct):=(hcell 4 _ rfl).1
 have m5:w.cell? ⟨g,1+n*7+5,none⟩=some (.slice Ag x.gone.length cg):=(hcell 5 _ rfl).1
 have z3:w.frozen? ⟨g,1+n*7+3,none⟩=false:=(hcell 3 _ rfl).2
 have z4:w.frozen? ⟨g,1+n*7+4,none⟩=false:=(hcell 4 _ rfl).2
 have z5:w.frozen? ⟨g,1+n*7+5,none⟩=false:=(hcell 5 _ rfl).2
 have HSX:Hid (jaq σ n x = σ):=by
  show _=_
  unfold jaq
  have:σ.sess.set n x = σ.sess:=by
   apply List.ext_getElem?
   intro m
   by_cases e:n=m
   ·subst e;rw [List.getElem?_set_self (by have:=(List.getElem?_eq_some_iff.1 hx).1;exact this),hx]
   ·rw [List.getElem?_set_ne e]
  rw [this]
 clear hC hL hcell h hSO hx
 have hb0:=jac w (.cells #[.int .i64 0,.int .i64 0,.string ⟨#[]⟩,.slice none 0 0,.slice none 0 0] 30)
 have C0:=Lib.hid (Cs.new w zeroRL 30)
 have hz0:(w.alloc (.cells #[.int .i64 0,.int .i64 0,.string ⟨#[]⟩,.slice none 0 0,.slice none 0 0] 30)).heap.size=w.heap.size+1:=by simp
 change Hid (Cs (w.alloc (.cells #[.int .i64 0,.int .i64 0,.string ⟨#[]⟩,.slice none 0 0,.slice none 0 0] 30)) _ _) at C0
 generalize hw0:w.alloc (.cells #[.int .i64 0,.int .i64 0,.string ⟨#[]⟩,.slice none 0 0,.slice none 0 0] 30)=w0 at *
 go_enter Tryz.func71,Tryz.ntmps71
 go_wp2_with fail
 clear hw0
 refine (jiz s _ hs).mono ?_
 rintro e w1 ⟨rfl,hb1⟩
 have C1:=Lib.hid (C0.out.next hb1)
 have hb01:=bx hb0 hb1
 have hs1:=hb1.size
 have r0:=C1.out.at 0 rfl
 have r1:=C1.out.at 1 rfl
 have r2:=C1.out.at 2 rfl
 have r3:=C1.out.at 3 rfl
 have r4:=C1.out.at 4 rfl
 have f0:=C1.out.2.2 0 (by simp)
 have f1:=C1.out.2.2 1 (by simp)
 have f2:=C1.out.2.2 2 (by simp)
 have f3:=C1.out.2.2 3 (by simp)
 have f4:=C1.out.2.2 4 (by simp)
 cases hq:jdr s
 ·have HE:Hid (jky x s=(x,jb8 1)):=by show _=_;unfold jky;rw [hq];rfl
  clear hq
  go_wp2
  (try simp only [Exit.inBlock,Exit.then])
  refine bodyPost_ret (jaz (b:=w.heap.size) rfl rfl (jbs C1.out _ _ _ _ _)) rfl ?_
  rw [HE.out]
  simp only
  rw [HSX.out]
  exact jam.wrote (HH.out.next hb01) (fun _ _=>rfl) (Nat.le_refl _) (by
   by_cases h0:c w.heap.size=0
   ·exact h0
   ·have:=HCL.out _ h0;omega) (Fr.below hb01) (jb0.plain 1 0 _)
 ·have HE:Hid (jky x s=({ x with mine:=ja2 x.mine s,gone:=jbg x.gone s },jb8 0)):=by show _=_;unfold jky;rw [hq];rfl
  clear hq
  rw [HE.out] at hI
  simp only at hI
  have HI:=Lib.hid hI
  clear hI
  have n3:=(hb01.cell (p:=⟨g,1+n*7+3,none⟩) hgw).trans m3
  have n4:=(hb01.cell (p:=⟨g,1+n*7+4,none⟩) hgw).trans m4
  have HB1:Hid (jar w1 (Im c) x.mine (.agg #[.slice Ad x.mine.doms.length cd,.slice At x.mine.tabs.length ct])):=⟨_,_,rfl,HC.out.doms.keep fun p hp=>hb01.cell (HCL.out _ (by rw [show c p.block=11 from hp];decide)),HC.out.tabs.keep fun p hp=>hb01.cell (HCL.out _ (by rw [show c p.block=11 from hp];decide))⟩
  go_wp2_with fail
  refine (jk0 x.mine s _ _ (Im c) HB1.out (fun q hq=>by have:=HCL.out q (by rw [show c q=11 from hq];decide);omega) (by omega) (by omega)).mono ?_
  rintro e w2 ⟨u,rfl,hu,hb2⟩
  have HU:=Lib.hid hu
  obtain ⟨ud,ut,rfl,o1,o2,-⟩:=hu
  obtain ⟨Aq,cq,rfl,-,-,-⟩:=jah o1
  obtain ⟨us2,x1,-⟩:=o2
  obtain ⟨Bq,dq,rfl,-,-,-⟩:=jah x1
  clear o1 x1 n3 n4
  have hb02:=bx hb01 hb2
  have hs2:=hb2.size
  have C2:=Lib.hid (C1.out.next hb2)
  have n3:=(hb02.cell (p:=⟨g,1+n*7+3,none⟩) hgw).trans m3
  have n4:=(hb02.cell (p:=⟨g,1+n*7+4,none⟩) hgw).trans m4
  have y3:=(World.frozen?_of_block (a:=⟨g,1+n*7+3,none⟩) (hb02.block g hgw)).trans z3
  have y4:=(World.frozen?_of_block (a:=⟨g,1+n*7+4,none⟩) (hb02.block g hgw)).trans z4
  generalize ja2 x.mine s=mine' at *
  have n5:((w2.setCell ⟨g,1+n*7+3,none⟩ (.slice Aq mine'.doms.length cq)).setCell ⟨g,1+n*7+4,none⟩ (.slice Bq mine'.tabs.length dq)).cell? ⟨g,1+n*7+5,none⟩=some (.slice Ag x.gone.length cg):=by
   rw [World.cell?_setCell_other _ _ _ _ (by simp),World.cell?_setCell_other _ _ _ _ (by simp)]
   exact (hb02.cell (p:=⟨g,1+n*7+5,none⟩) hgw).trans m5
  have hg3:Hid (∀ b,b≠g→((w2.setCell ⟨g,1+n*7+3,none⟩ (.slice Aq mine'.doms.length cq)).setCell ⟨g,1+n*7+4,none⟩ (.slice Bq mine'.tabs.length dq)).heap[b]? = w2.heap[b]?):=fun b hb=>by rw [RowKit.Below.heap_setCell _ _ _ _ hb,RowKit.Below.heap_setCell _ _ _ _ hb]
  have hz3:((w2.setCell ⟨g,1+n*7+3,none⟩ (.slice Aq mine'.doms.length cq)).setCell ⟨g,1+n*7+4,none⟩ (.slice Bq mine'.tabs.length dq)).heap.size=w2.heap.size:=by simp [World.setCell]
  have HG3:Hid (OwnT ((w2.setCell ⟨g,1+n*7+3,none⟩ (.slice Aq mine'.doms.length cq)).setCell ⟨g,1+n*7+4,none⟩ (.slice Bq mine'.tabs.length dq)) 0 (.slice Ag x.gone.length cg) x.gone):=HC.out.gone.keep fun b hb=>by
   have e:=HC.out.goneC b hb
   have hbw:=HCL.out b (by omega)
   rw [hg3.out b (fun e'=>by rw [e',HH.out.col] at e;omega)]
   exact hb02.block b hbw
  go_wp2_with fail
  refine (jep x.gone _ s _ 0 HG3.out HRG.out (by omega) (Nat.zero_le _)).mono ?_
  rintro e w4 ⟨v4,rfl,ho4,hg4,hm4⟩
  have HO4:=Lib.hid ho4
  have HG4:=Lib.hid hg4
  have HM4:=Lib.hid hm4
  obtain ⟨A4,c4,e4,-,-,-⟩:=jah ho4
  have hgg:some g≠(Value.slice Ag x.gone.length cg).ownBlock:=fun e=>by have:=HC.out.goneC g e.symm;rw [HH.out.col] at this;omega
  have hz4:=hg4.size
  have C3:=Lib.hid (C2.out.keep (hg3.out w.heap.size (by omega)) (by omega))
  have C4:=Lib.hid (C3.out.grownO hg4 (fun e=>by have:=HCL.out w.heap.size (by rw [HC.out.goneC _ e];omega);omega))
  have k5:w4.cell? ⟨g,1+n*7+5,none⟩=some (.slice Ag x.gone.length cg):=(World.cell?_of_block (a:=⟨g,1+n*7+5,none⟩) (hg4.block g (by omega) hgg)).trans n5
  have y5:w4.frozen? ⟨g,1+n*7+5,none⟩=false:=by
   rw [World.frozen?_of_block (a:=⟨g,1+n*7+5,none⟩) (hg4.block g (by omega) hgg)]
   simpa using (World.frozen?_of_block (a:=⟨g,1+n*7+5,none⟩) (hb02.block g hgw)).trans z5
  obtain ⟨c',hSt,hold,hF⟩:=HH.out.wrote hn HC.out HL.out (lo:=w.heap.size+1) (by omega) (by omega) hb02 (fun b hb=>.inl hb) (by omega) HU.out HO4.out HG4.out HM4.out HI.out
  have HST:=Lib.hid hSt
  have HOLD:=Lib.hid hold
  have HF:=Lib.hid hF
  clear ho4 hg4 hm4 hSt hold hF
  have C5:=Lib.hid (C4.out.keep (w':=w4.setCell ⟨g,1+n*7+5,none⟩ v4) (RowKit.Below.heap_setCell _ _ _ _ (show w.heap.size≠g by omega)) (by simp [World.setCell]))
  subst e4
  have r0:=C5.out.at 0 rfl
  have r1:=C5.out.at 1 rfl
  have r2:=C5.out.at 2 rfl
  have r3:=C5.out.at 3 rfl
  have r4:=C5.out.at 4 rfl
  have f0:=C5.out.2.2 0 (by simp)
  have f1:=C5.out.2.2 1 (by simp)
  have f2:=C5.out.2.2 2 (by simp)
  have f3:=C5.out.2.2 3 (by simp)
  have f4:=C5.out.2.2 4 (by simp)
  go_wp2
  (try simp only [Exit.inBlock,Exit.then])
  refine bodyPost_ret (jaz (b:=w.heap.size) rfl rfl (jbs C5.out _ _ _ _ _)) rfl ?_
  rw [HE.out]
  exact jam.wrote HST.out (fun b hb=>HOLD.out b (by omega)) (Nat.le_refl _) (by
   rw [HOLD.out _ (by omega)]
   by_cases h0:c w.heap.size=0
   ·exact h0
   ·have:=HCL.out _ h0;omega) HF.out (jb0.plain 0 0 _)
theorem jm7 {σ:StoreD} {n:Nat} {x:SessD} (hx:σ.sess[n]? = some x):jaq σ n x = σ:=by
 unfold jaq
 have:σ.sess.set n x = σ.sess:=by
  apply List.ext_getElem?
  intro m
  by_cases e:n=m
  ·subst e;rw [List.getElem?_set_self (by have:=(List.getElem?_eq_some_iff.1 hx).1;exact this),hx]
  ·rw [List.getElem?_set_ne e]
 rw [this]
theorem ym3 (σ:StoreD) (c:Nat→Nat) (g n:Nat) (vs:List Value) (vl:Value) (x:SessD) (s:ByteArray) (w:World) (h:StoreC w c g σ vs vl) (hv:VarsOk w) (hx:σ.sess[n]? = some x) (hs:s.size≤140737488355328) (hI:Inv (jaq σ n (putV x s).1)) :
  Calls Tryz.prog 70 #[.pointer (some ⟨g,1+n*7,none⟩),.string s] w (jam w c g (jaq σ n (putV x s).1,(putV x s).2)):=by
 have hSO:=h.inv.sess x (List.mem_of_getElem? hx)
 have hacts:=h.inv.acts
 obtain ⟨vd,vt,vg,vr,hC,hn,hL,hcell⟩:=h.sessAt hx
 have HH:=Lib.hid h
 have HC:=Lib.hid hC
 have HL:=Lib.hid hL
 have hgw:g<w.heap.size:=h.cs.1
 have HME:=Lib.hid hSO.mine
 have hds:=hSO.ds
 have hts:=hSO.ts
 have hgs:=hSO.gs
 have HRG:=Lib.hid hSO.gone
 have HCL:=Lib.hid h.lt
 have HSX:=Lib.hid (jm7 hx)
 have hsl:s.data.toList.length≤140737488355328:=by
                             have:s.size=s.data.toList.length:=by show s.data.size=_;simp
                             omega
 have HBS:=Lib.hid (ygm s)
 have HPC:=Lib.hid (jkm s.data.toList)
 have HPV:Hid (putV x s=let r:=jdz s.data.toList;if r.2.2.2≠0 then (x,jb8 r.2.2.2) else if r.2.2.1 then ({ x with mine:=jd1 x.mine r.2.1,gone:=jbg x.gone r.2.1.name },jb8 0) else ({ x with mine:=jgj x.mine r.1,gone:=jbg x.gone r.1.1 },jb8 0)):=rfl
 generalize putV x s=PV at *
 obtain ⟨Ad,cd,rfl,-,-⟩:=hC.doms.form
 obtain ⟨At,ct,rfl,-,-⟩:=hC.tabs.form
 obtain ⟨Ag,cg,rfl,-,-,-⟩:=jah hC.gone
 have m3:w.cell? ⟨g,1+n*7+3,none⟩=some (.slice Ad x.mine.doms.length cd):=(hcell 3 _ rfl).1
 have m4:w.cell? ⟨g,1+n*7+4,none⟩=some (.slice At x.mine.tabs.length ct):=(hcell 4 _ rfl).1
 have m5:w.cell? ⟨g,1+n*7+5,none⟩=some (.slice Ag x.gone.length cg):=(hcell 5 _ rfl).1
 have z3:w.frozen? ⟨g,1+n*7+3,none⟩=false:=(hcell 3 _ rfl).2
 have z4:w.frozen? ⟨g,1+n*7+4,none⟩=false:=(hcell 4 _ rfl).2
 have z5:w.frozen? ⟨g,1+n*7+5,none⟩=false:=(hcell 5 _ rfl).2
 clear hC hL hcell h hSO hx hs
 have hb0:=jac w (.cells #[.int .i64 0,.int .i64 0,.string ⟨#[]⟩,.slice none 0 0,.slice none 0 0] 30)
 have C0:=Lib.hid (Cs.new w zeroRL 30)
 have hz0:(w.alloc (.cells #[.int .i64 0,.int .i64 0,.string ⟨#[]⟩,.slice none 0 0,.slice none 0 0] 30)).heap.size=w.heap.size+1:=by simp
 change Hid (Cs (w.alloc (.cells #[.int .i64 0,.int .i64 0,.string ⟨#[]⟩,.slice none 0 0,.slice none 0 0] 30)) _ _) at C0
 generalize hw0:w.alloc (.cells #[.int .i64 0,.int .i64 0,.string ⟨#[]⟩,.slice none 0 0,.slice none 0 0] 30)=w0 at *
 have HV0:=Lib.hid (hv.next hb0)
 clear hv
 rw [← HBS.out]
 go_enter Tryz.func70,Tryz.ntmps70
 go_wp2_with fail
 clear hw0
 refine (jx2 s.data.toList _ HV0.out hsl).mono ?_
 rintro e w1 ⟨vtab,rfl,htab,hb1⟩
 have C1:=Lib.hid (C0.out.next hb1)
 have hb01:=bx hb0 hb1
 have hs1:=hb1.size
 have HTAB:=Lib.hid htab
 generalize hPP:jdz s.data.toList=PP at *
 obtain ⟨⟨dn,dlo,dhi⟩,⟨tn,tp,tc,ti,tr⟩,isT,code⟩:=PP
 simp only at HPV HTAB htab
 obtain ⟨wi,wr',rfl,hti,htr⟩:=htab
 simp only at hti htr
 obtain ⟨Ai,ci,rfl,-,-⟩:=hti.form
 obtain ⟨Ar,cr,rfl,-,-⟩:=htr.form
 simp only [domV]
 clear hti htr hPP
 have hb2:=jac w1 (.cells #[.string dn,.int .i64 dlo,.int .i64 dhi] 58)
 have D2:=Lib.hid (Cs.new w1 [.string dn,.int .i64 dlo,.int .i64 dhi] 58)
 have hz2:(w1.alloc (.cells #[.string dn,.int .i64 dlo,.int .i64 dhi] 58)).heap.size=w1.heap.size+1:=by simp
 change Hid (Cs (w1.alloc (.cells #[.string dn,.int .i64 dlo,.int .i64 dhi] 58)) _ _) at D2
 have hb3:=jac (w1.alloc (.cells #[.string dn,.int .i64 dlo,.int .i64 dhi] 58)) (.cells #[.string tn,.int .i64 tp,.bool tc,.slice Ai ti.length ci,.slice Ar tr.length cr] 56)
 have T3:=Lib.hid (Cs.new (w1.alloc (.cells #[.string dn,.int .i64 dlo,.int .i64 dhi] 58)) [.string tn,.int .i64 tp,.bool tc,.slice Ai ti.length ci,.slice Ar tr.length cr] 56)
 change Hid (Cs ((w1.alloc (.cells #[.string dn,.int .i64 dlo,.int .i64 dhi] 58)).alloc (.cells #[.string tn,.int .i64 tp,.bool tc,.slice Ai ti.length ci,.slice Ar tr.length cr] 56)) _ _) at T3
 rw [hz2] at T3
 have hz3:((w1.alloc (.cells #[.string dn,.int .i64 dlo,.int .i64 dhi] 58)).alloc (.cells #[.string tn,.int .i64 tp,.bool tc,.slice Ai ti.length ci,.slice Ar tr.length cr] 56)).heap.size=w1.heap.size+2:=by simp
 have D3:=Lib.hid (D2.out.next hb3)
 have hb13:=bx hb2 hb3
 have hb03:=bx hb01 hb13
 have C3:=Lib.hid (C1.out.next hb13)
 have HT3:Hid (ja9 ((w1.alloc (.cells #[.string dn,.int .i64 dlo,.int .i64 dhi] 58)).alloc (.cells #[.string tn,.int .i64 tp,.bool tc,.slice Ai ti.length ci,.slice Ar tr.length cr] 56)) (From w0.heap.size w1) ⟨tn,tp,tc,ti,tr⟩ _):=HTAB.out.keepS (fun k hk=>hb13.block k hk.2)
 have r0:=C3.out.at 0 rfl
 have r1:=C3.out.at 1 rfl
 have r2:=C3.out.at 2 rfl
 have r3:=C3.out.at 3 rfl
 have r4:=C3.out.at 4 rfl
 have f0:=C3.out.2.2 0 (by simp)
 have f1:=C3.out.2.2 1 (by simp)
 have f2:=C3.out.2.2 2 (by simp)
 have f3:=C3.out.2.2 3 (by simp)
 have f4:=C3.out.2.2 4 (by simp)
 by_cases hcode:code=0
 ·subst hcode
  rcases HPC.out with ⟨d,e,gd⟩ | ⟨t,e,gd⟩ | ⟨ce,e,gd⟩
  ·injection e with e1 e2
   injection e2 with e2 e3
   injection e3 with e3 e4
   subst e1 e3
   clear e2 e4 gd HPC
   have HE:Hid (PV=({ x with mine:=jgj x.mine (dn,dlo,dhi),gone:=jbg x.gone dn },jb8 0)):=by show _=_;rw [HPV.out];rfl
   clear HPV
   rw [HE.out] at hI
   simp only at hI
   have HI:=Lib.hid hI
   clear hI
   have HRI:=Lib.hid (jd5.1 HME.out).2.1
   go_wp2_with fail
   generalize hw3:(w1.alloc (.cells #[.string dn,.int .i64 dlo,.int .i64 dhi] 58)).alloc (.cells #[.string tn,.int .i64 tp,.bool tc,.slice Ai ti.length ci,.slice Ar tr.length cr] 56)=w3 at *
   have n3:w3.drew.cell? ⟨g,1+n*7+3,none⟩=_:=(hb03.cell (p:=⟨g,1+n*7+3,none⟩) hgw).trans m3
   have n4:w3.drew.cell? ⟨g,1+n*7+4,none⟩=_:=(hb03.cell (p:=⟨g,1+n*7+4,none⟩) hgw).trans m4
   have t0:w3.drew.cell? ⟨w1.heap.size,0,none⟩=_:=D3.out.at 0 rfl
   have t1:w3.drew.cell? ⟨w1.heap.size,1,none⟩=_:=D3.out.at 1 rfl
   have t2:w3.drew.cell? ⟨w1.heap.size,2,none⟩=_:=D3.out.at 2 rfl
   have HSL:Hid (∀ k,Im c k∨From w0.heap.size w1 k→k<w3.drew.heap.size):=fun k hk=>by
    show k<w3.heap.size
    rcases hk with hk | hk
    ·have:=HCL.out k (by rw [show c k=11 from hk];decide);omega
    ·have:=hk.2;omega
   have HB3:Hid (jar w3.drew (fun b=>Im c b∨From w0.heap.size w1 b) x.mine (.agg #[.slice Ad x.mine.doms.length cd,.slice At x.mine.tabs.length ct])):=⟨_,_,rfl,(HC.out.doms.keep fun p hp=>hb03.cell (HCL.out _ (by rw [show c p.block=11 from hp];decide))).more (fun _ hk=>.inl hk),(HC.out.tabs.keep fun p hp=>hb03.cell (HCL.out _ (by rw [show c p.block=11 from hp];decide))).more (fun _ hk=>.inl hk)⟩
   clear hw3
   go_region_law (first
    | (go_simp;go_at_call 62;refine (yad x.mine dn dlo dhi _ _ (fun b=>Im c b∨From w0.heap.size w1 b) HB3.out HSL.out (by omega) (by omega) HRI.out).mono ?_;rintro e w4 ⟨u,rfl,hu,hb4'⟩;have hb4:Below w3.heap.size w3 w4:=jcw hb4';have HU:Hid (jli w4 w3.heap.size (fun b=>Im c b∨From w0.heap.size w1 b) (jgj x.mine (dn,dlo,dhi)) u):=hu;obtain ⟨ud,ut,rfl,o1,o2,-⟩:=hu;obtain ⟨Aq,cq,rfl,-,-,-⟩:=jah o1;obtain ⟨us2,x1,-⟩:=o2;obtain ⟨Bq,dq,rfl,-,-,-⟩:=jah x1;clear o1 x1 hb4';have hb04:=bx hb03 hb4;have k3:=(hb04.cell (p:=⟨g,1+n*7+3,none⟩) hgw).trans m3;have k4:=(hb04.cell (p:=⟨g,1+n*7+4,none⟩) hgw).trans m4;have y3:=(World.frozen?_of_block (a:=⟨g,1+n*7+3,none⟩) (hb04.block g hgw)).trans z3;have y4:=(World.frozen?_of_block (a:=⟨g,1+n*7+4,none⟩) (hb04.block g hgw)).trans z4))
   all_goals
    have hz4:=hb4.size
    have T4:=Lib.hid (D3.out.next hb4)
    have C4:=Lib.hid (C3.out.next hb4)
    generalize hmn:jgj x.mine (dn,dlo,dhi)=mine' at *
    have hW:Hid (∀ b,b≠g→((w4.setCell ⟨g,1+n*7+3,none⟩ (.slice Aq mine'.doms.length cq)).setCell ⟨g,1+n*7+3+1,none⟩ (.slice Bq mine'.tabs.length dq)).heap[b]? = w4.heap[b]?):=fun b hb=>by rw [RowKit.Below.heap_setCell _ _ _ _ hb,RowKit.Below.heap_setCell _ _ _ _ hb]
    have hzW:((w4.setCell ⟨g,1+n*7+3,none⟩ (.slice Aq mine'.doms.length cq)).setCell ⟨g,1+n*7+3+1,none⟩ (.slice Bq mine'.tabs.length dq)).heap.size=w4.heap.size:=by simp [World.setCell]
    have n5:((w4.setCell ⟨g,1+n*7+3,none⟩ (.slice Aq mine'.doms.length cq)).setCell ⟨g,1+n*7+3+1,none⟩ (.slice Bq mine'.tabs.length dq)).drew.cell? ⟨g,1+n*7+5,none⟩=some (.slice Ag x.gone.length cg):=by
     show ((w4.setCell ⟨g,1+n*7+3,none⟩ (.slice Aq mine'.doms.length cq)).setCell ⟨g,1+n*7+3+1,none⟩ (.slice Bq mine'.tabs.length dq)).cell? ⟨g,1+n*7+5,none⟩=_
     rw [World.cell?_setCell_other _ _ _ _ (by simp),World.cell?_setCell_other _ _ _ _ (by simp)]
     exact (hb04.cell (p:=⟨g,1+n*7+5,none⟩) hgw).trans m5
    have tq:((w4.setCell ⟨g,1+n*7+3,none⟩ (.slice Aq mine'.doms.length cq)).setCell ⟨g,1+n*7+3+1,none⟩ (.slice Bq mine'.tabs.length dq)).drew.cell? ⟨w1.heap.size,0,none⟩=some (.string dn):=(World.cell?_of_block (a:=⟨w1.heap.size,0,none⟩) (hW.out (w1.heap.size) (by omega))).trans (T4.out.at 0 rfl)
    have HG5:Hid (OwnT ((w4.setCell ⟨g,1+n*7+3,none⟩ (.slice Aq mine'.doms.length cq)).setCell ⟨g,1+n*7+3+1,none⟩ (.slice Bq mine'.tabs.length dq)).drew 0 (.slice Ag x.gone.length cg) x.gone):=HC.out.gone.keep fun b hb=>by
     have e:=HC.out.goneC b hb
     have hbw:=HCL.out b (by omega)
     exact (hW.out b (fun e'=>by rw [e',HH.out.col] at e;omega)).trans (hb04.block b hbw)
    have C5:=Lib.hid (C4.out.keep (w':=((w4.setCell ⟨g,1+n*7+3,none⟩ (.slice Aq mine'.doms.length cq)).setCell ⟨g,1+n*7+3+1,none⟩ (.slice Bq mine'.tabs.length dq))) (hW.out w.heap.size (by omega)) (by omega))
    have hgg:some g≠(Value.slice Ag x.gone.length cg).ownBlock:=fun e=>by have:=HC.out.goneC g e.symm;rw [HH.out.col] at this;omega
    have z5':((w4.setCell ⟨g,1+n*7+3,none⟩ (.slice Aq mine'.doms.length cq)).setCell ⟨g,1+n*7+3+1,none⟩ (.slice Bq mine'.tabs.length dq)).frozen? ⟨g,1+n*7+5,none⟩=false:=by simpa using (World.frozen?_of_block (a:=⟨g,1+n*7+5,none⟩) (hb04.block g hgw)).trans z5
    go_wp2_with fail
    go_region_law (first
     | (go_simp;go_at_call 113;refine (jep x.gone _ dn _ 0 HG5.out HRG.out (by omega) (Nat.zero_le _)).mono ?_;rintro e w6 ⟨v6,rfl,ho6,hg6',hm6'⟩;have hg6:((w4.setCell ⟨g,1+n*7+3,none⟩ (.slice Aq mine'.doms.length cq)).setCell ⟨g,1+n*7+3+1,none⟩ (.slice Bq mine'.tabs.length dq)).grownBy w6 (Value.slice Ag x.gone.length cg).ownBlock:=⟨hg6'.os,hg6'.tape,hg6'.output,hg6'.size,hg6'.block⟩;have HM6:Hid (jed ((w4.setCell ⟨g,1+n*7+3,none⟩ (.slice Aq mine'.doms.length cq)).setCell ⟨g,1+n*7+3+1,none⟩ (.slice Bq mine'.tabs.length dq)) (Value.slice Ag x.gone.length cg) v6):=fun b hb=>hm6' b hb;have HO6:=Lib.hid ho6;have HG6:=Lib.hid hg6;have C6:=Lib.hid (C5.out.grownO hg6 (fun e=>by have:=HCL.out w.heap.size (by rw [HC.out.goneC _ e];omega);omega));have k5:w6.cell? ⟨g,1+n*7+5,none⟩=some (.slice Ag x.gone.length cg):=(World.cell?_of_block (a:=⟨g,1+n*7+5,none⟩) (hg6.block g (by omega) hgg)).trans n5;have y5:w6.frozen? ⟨g,1+n*7+5,none⟩=false:=(World.frozen?_of_block (a:=⟨g,1+n*7+5,none⟩) (hg6.block g (by omega) hgg)).trans z5';obtain ⟨A6,c6,e6,-,-,-⟩:=jah ho6;subst e6;clear ho6 hg6' hm6'))
   all_goals
    have hz6:=HG6.out.size
    obtain ⟨c',hSt,hold,hF⟩:=HH.out.wrote hn HC.out HL.out (lo:=w.heap.size+1) (by omega) (by omega) hb04 (fun b hb=>hb.imp id (fun h=>⟨by have:=h.1;omega,by have:=h.2;omega⟩)) (by omega) HU.out HO6.out HG6.out HM6.out HI.out
    have HST:=Lib.hid hSt
    have HOLD:=Lib.hid hold
    have HF:=Lib.hid hF
    clear hSt hold hF
    have C7:=Lib.hid (C6.out.keep (w':=w6.setCell ⟨g,1+n*7+5,none⟩ (.slice A6 (jbg x.gone dn).length c6)) (RowKit.Below.heap_setCell _ _ _ _ (show w.heap.size≠g by omega)) (by simp [World.setCell]))
    have r0:=C7.out.at 0 rfl
    have r1:=C7.out.at 1 rfl
    have r2:=C7.out.at 2 rfl
    have r3:=C7.out.at 3 rfl
    have r4:=C7.out.at 4 rfl
    have f0:=C7.out.2.2 0 (by simp)
    have f1:=C7.out.2.2 1 (by simp)
    have f2:=C7.out.2.2 2 (by simp)
    have f3:=C7.out.2.2 3 (by simp)
    have f4:=C7.out.2.2 4 (by simp)
    go_wp2
    (try simp only [Exit.inBlock,Exit.then])
    refine bodyPost_ret (jaz (b:=w.heap.size) rfl rfl (jbs C7.out _ _ _ _ _)) rfl ?_
    rw [HE.out]
    exact jam.wrote HST.out (fun b hb=>HOLD.out b (by omega)) (Nat.le_refl _) (by
     rw [HOLD.out _ (by omega)]
     by_cases h0:c w.heap.size=0
     ·exact h0
     ·have:=HCL.out _ h0;omega) HF.out (jb0.plain 0 0 _)
  ·injection e with e1 e2
   injection e2 with e2 e3
   injection e3 with e3 e4
   subst e2 e3
   clear e1 e4 gd HPC
   have HE:Hid (PV=({ x with mine:=jd1 x.mine ⟨tn,tp,tc,ti,tr⟩,gone:=jbg x.gone tn },jb8 0)):=by show _=_;rw [HPV.out];rfl
   clear HPV
   rw [HE.out] at hI
   simp only at hI
   have HI:=Lib.hid hI
   clear hI
   have HRI:=Lib.hid (jd5.1 HME.out).2.2.2.1
   go_wp2_with fail
   generalize hw3:(w1.alloc (.cells #[.string dn,.int .i64 dlo,.int .i64 dhi] 58)).alloc (.cells #[.string tn,.int .i64 tp,.bool tc,.slice Ai ti.length ci,.slice Ar tr.length cr] 56)=w3 at *
   have n3:w3.drew.cell? ⟨g,1+n*7+3,none⟩=_:=(hb03.cell (p:=⟨g,1+n*7+3,none⟩) hgw).trans m3
   have n4:w3.drew.cell? ⟨g,1+n*7+4,none⟩=_:=(hb03.cell (p:=⟨g,1+n*7+4,none⟩) hgw).trans m4
   have t0:w3.drew.cell? ⟨w1.heap.size+1,0,none⟩=_:=T3.out.at 0 rfl
   have t1:w3.drew.cell? ⟨w1.heap.size+1,1,none⟩=_:=T3.out.at 1 rfl
   have t2:w3.drew.cell? ⟨w1.heap.size+1,2,none⟩=_:=T3.out.at 2 rfl
   have t3:w3.drew.cell? ⟨w1.heap.size+1,3,none⟩=_:=T3.out.at 3 rfl
   have t4:w3.drew.cell? ⟨w1.heap.size+1,4,none⟩=_:=T3.out.at 4 rfl
   have HSL:Hid (∀ k,Im c k∨From w0.heap.size w1 k→k<w3.drew.heap.size):=fun k hk=>by
    show k<w3.heap.size
    rcases hk with hk | hk
    ·have:=HCL.out k (by rw [show c k=11 from hk];decide);omega
    ·have:=hk.2;omega
   have HB3:Hid (jar w3.drew (fun b=>Im c b∨From w0.heap.size w1 b) x.mine (.agg #[.slice Ad x.mine.doms.length cd,.slice At x.mine.tabs.length ct])):=⟨_,_,rfl,(HC.out.doms.keep fun p hp=>hb03.cell (HCL.out _ (by rw [show c p.block=11 from hp];decide))).more (fun _ hk=>.inl hk),(HC.out.tabs.keep fun p hp=>hb03.cell (HCL.out _ (by rw [show c p.block=11 from hp];decide))).more (fun _ hk=>.inl hk)⟩
   have HT3d:Hid (ja9 w3.drew (fun b=>Im c b∨From w0.heap.size w1 b) ⟨tn,tp,tc,ti,tr⟩ _):=(HT3.out.keepS (w':=w3.drew) (fun _ _=>rfl)).moreS (fun _ hk=>.inr hk)
   clear hw3
   go_region_law (first
    | (go_simp;go_at_call 61;refine (jo6 x.mine ⟨tn,tp,tc,ti,tr⟩ _ _ _ (fun b=>Im c b∨From w0.heap.size w1 b) HB3.out HT3d.out HSL.out (by omega) (by omega) HRI.out).mono ?_;rintro e w4 ⟨u,rfl,hu,hb4'⟩;have hb4:Below w3.heap.size w3 w4:=jcw hb4';have HU:Hid (jli w4 w3.heap.size (fun b=>Im c b∨From w0.heap.size w1 b) (jd1 x.mine ⟨tn,tp,tc,ti,tr⟩) u):=hu;obtain ⟨ud,ut,rfl,o1,o2,-⟩:=hu;obtain ⟨Aq,cq,rfl,-,-,-⟩:=jah o1;obtain ⟨us2,x1,-⟩:=o2;obtain ⟨Bq,dq,rfl,-,-,-⟩:=jah x1;clear o1 x1 hb4';have hb04:=bx hb03 hb4;have k3:=(hb04.cell (p:=⟨g,1+n*7+3,none⟩) hgw).trans m3;have k4:=(hb04.cell (p:=⟨g,1+n*7+4,none⟩) hgw).trans m4;have y3:=(World.frozen?_of_block (a:=⟨g,1+n*7+3,none⟩) (hb04.block g hgw)).trans z3;have y4:=(World.frozen?_of_block (a:=⟨g,1+n*7+4,none⟩) (hb04.block g hgw)).trans z4))
   all_goals
    have hz4:=hb4.size
    have T4:=Lib.hid (T3.out.next hb4)
    have C4:=Lib.hid (C3.out.next hb4)
    generalize hmn:jd1 x.mine ⟨tn,tp,tc,ti,tr⟩=mine' at *
    have hW:Hid (∀ b,b≠g→((w4.setCell ⟨g,1+n*7+3,none⟩ (.slice Aq mine'.doms.length cq)).setCell ⟨g,1+n*7+3+1,none⟩ (.slice Bq mine'.tabs.length dq)).heap[b]? = w4.heap[b]?):=fun b hb=>by rw [RowKit.Below.heap_setCell _ _ _ _ hb,RowKit.Below.heap_setCell _ _ _ _ hb]
    have hzW:((w4.setCell ⟨g,1+n*7+3,none⟩ (.slice Aq mine'.doms.length cq)).setCell ⟨g,1+n*7+3+1,none⟩ (.slice Bq mine'.tabs.length dq)).heap.size=w4.heap.size:=by simp [World.setCell]
    have n5:((w4.setCell ⟨g,1+n*7+3,none⟩ (.slice Aq mine'.doms.length cq)).setCell ⟨g,1+n*7+3+1,none⟩ (.slice Bq mine'.tabs.length dq)).drew.cell? ⟨g,1+n*7+5,none⟩=some (.slice Ag x.gone.length cg):=by
     show ((w4.setCell ⟨g,1+n*7+3,none⟩ (.slice Aq mine'.doms.length cq)).setCell ⟨g,1+n*7+3+1,none⟩ (.slice Bq mine'.tabs.length dq)).cell? ⟨g,1+n*7+5,none⟩=_
     rw [World.cell?_setCell_other _ _ _ _ (by simp),World.cell?_setCell_other _ _ _ _ (by simp)]
     exact (hb04.cell (p:=⟨g,1+n*7+5,none⟩) hgw).trans m5
    have tq:((w4.setCell ⟨g,1+n*7+3,none⟩ (.slice Aq mine'.doms.length cq)).setCell ⟨g,1+n*7+3+1,none⟩ (.slice Bq mine'.tabs.length dq)).drew.cell? ⟨w1.heap.size+1,0,none⟩=some (.string tn):=(World.cell?_of_block (a:=⟨w1.heap.size+1,0,none⟩) (hW.out (w1.heap.size+1) (by omega))).trans (T4.out.at 0 rfl)
    have HG5:Hid (OwnT ((w4.setCell ⟨g,1+n*7+3,none⟩ (.slice Aq mine'.doms.length cq)).setCell ⟨g,1+n*7+3+1,none⟩ (.slice Bq mine'.tabs.length dq)).drew 0 (.slice Ag x.gone.length cg) x.gone):=HC.out.gone.keep fun b hb=>by
     have e:=HC.out.goneC b hb
     have hbw:=HCL.out b (by omega)
     exact (hW.out b (fun e'=>by rw [e',HH.out.col] at e;omega)).trans (hb04.block b hbw)
    have C5:=Lib.hid (C4.out.keep (w':=((w4.setCell ⟨g,1+n*7+3,none⟩ (.slice Aq mine'.doms.length cq)).setCell ⟨g,1+n*7+3+1,none⟩ (.slice Bq mine'.tabs.length dq))) (hW.out w.heap.size (by omega)) (by omega))
    have hgg:some g≠(Value.slice Ag x.gone.length cg).ownBlock:=fun e=>by have:=HC.out.goneC g e.symm;rw [HH.out.col] at this;omega
    have z5':((w4.setCell ⟨g,1+n*7+3,none⟩ (.slice Aq mine'.doms.length cq)).setCell ⟨g,1+n*7+3+1,none⟩ (.slice Bq mine'.tabs.length dq)).frozen? ⟨g,1+n*7+5,none⟩=false:=by simpa using (World.frozen?_of_block (a:=⟨g,1+n*7+5,none⟩) (hb04.block g hgw)).trans z5
    go_wp2_with fail
    go_region_law (first
     | (go_simp;go_at_call 113;refine (jep x.gone _ tn _ 0 HG5.out HRG.out (by omega) (Nat.zero_le _)).mono ?_;rintro e w6 ⟨v6,rfl,ho6,hg6',hm6'⟩;have hg6:((w4.setCell ⟨g,1+n*7+3,none⟩ (.slice Aq mine'.doms.length cq)).setCell ⟨g,1+n*7+3+1,none⟩ (.slice Bq mine'.tabs.length dq)).grownBy w6 (Value.slice Ag x.gone.length cg).ownBlock:=⟨hg6'.os,hg6'.tape,hg6'.output,hg6'.size,hg6'.block⟩;have HM6:Hid (jed ((w4.setCell ⟨g,1+n*7+3,none⟩ (.slice Aq mine'.doms.length cq)).setCell ⟨g,1+n*7+3+1,none⟩ (.slice Bq mine'.tabs.length dq)) (Value.slice Ag x.gone.length cg) v6):=fun b hb=>hm6' b hb;have HO6:=Lib.hid ho6;have HG6:=Lib.hid hg6;have C6:=Lib.hid (C5.out.grownO hg6 (fun e=>by have:=HCL.out w.heap.size (by rw [HC.out.goneC _ e];omega);omega));have k5:w6.cell? ⟨g,1+n*7+5,none⟩=some (.slice Ag x.gone.length cg):=(World.cell?_of_block (a:=⟨g,1+n*7+5,none⟩) (hg6.block g (by omega) hgg)).trans n5;have y5:w6.frozen? ⟨g,1+n*7+5,none⟩=false:=(World.frozen?_of_block (a:=⟨g,1+n*7+5,none⟩) (hg6.block g (by omega) hgg)).trans z5';obtain ⟨A6,c6,e6,-,-,-⟩:=jah ho6;subst e6;clear ho6 hg6' hm6'))
   all_goals
    have hz6:=HG6.out.size
    obtain ⟨c',hSt,hold,hF⟩:=HH.out.wrote hn HC.out HL.out (lo:=w.heap.size+1) (by omega) (by omega) hb04 (fun b hb=>hb.imp id (fun h=>⟨by have:=h.1;omega,by have:=h.2;omega⟩)) (by omega) HU.out HO6.out HG6.out HM6.out HI.out
    have HST:=Lib.hid hSt
    have HOLD:=Lib.hid hold
    have HF:=Lib.hid hF
    clear hSt hold hF
    have C7:=Lib.hid (C6.out.keep (w':=w6.setCell ⟨g,1+n*7+5,none⟩ (.slice A6 (jbg x.gone tn).length c6)) (RowKit.Below.heap_setCell _ _ _ _ (show w.heap.size≠g by omega)) (by simp [World.setCell]))
    have r0:=C7.out.at 0 rfl
    have r1:=C7.out.at 1 rfl
    have r2:=C7.out.at 2 rfl
    have r3:=C7.out.at 3 rfl
    have r4:=C7.out.at 4 rfl
    have f0:=C7.out.2.2 0 (by simp)
    have f1:=C7.out.2.2 1 (by simp)
    have f2:=C7.out.2.2 2 (by simp)
    have f3:=C7.out.2.2 3 (by simp)
    have f4:=C7.out.2.2 4 (by simp)
    go_wp2
    (try simp only [Exit.inBlock,Exit.then])
    refine bodyPost_ret (jaz (b:=w.heap.size) rfl rfl (jbs C7.out _ _ _ _ _)) rfl ?_
    rw [HE.out]
    exact jam.wrote HST.out (fun b hb=>HOLD.out b (by omega)) (Nat.le_refl _) (by
     rw [HOLD.out _ (by omega)]
     by_cases h0:c w.heap.size=0
     ·exact h0
     ·have:=HCL.out _ h0;omega) HF.out (jb0.plain 0 0 _)
  ·injection e with e1 e2
   injection e2 with e2 e3
   injection e3 with e3 e4
   exact absurd e4.symm gd
 ·have HE:Hid (PV=(x,jb8 code)):=by show _=_;rw [HPV.out];simp [hcode]
  have hne:(code != 0)=true:=by simpa using hcode
  clear HPV HPC
  go_wp2
  (try simp only [Exit.inBlock,Exit.then])
  refine bodyPost_ret (jaz (b:=w.heap.size) rfl rfl (jbs C3.out _ _ _ _ _)) rfl ?_
  rw [HE.out]
  simp only
  rw [HSX.out]
  exact jam.wrote (HH.out.next hb03) (fun _ _=>rfl) (Nat.le_refl _) (by
   by_cases h0:c w.heap.size=0
   ·exact h0
   ·have:=HCL.out _ h0;omega) (Fr.below hb03) (jb0.plain code 0 _)
end Go.Proofs.YthmlndmlnlfhnaaGreatDoor
