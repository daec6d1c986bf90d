package tests

import (
	"fmt"
	"math"
	"math/rand"
	"slices"
	"strings"
	"testing"

	"loop.example/g00226/impl"
)

// sessionsOf: Clients and Numbers by turns.
func sessionsOf(numbers ...int64) []impl.Session {
	var list []impl.Session
	for i := 0; i < len(numbers); i += 2 {
		list = append(list, impl.Session{Client: numbers[i], Number: numbers[i+1]})
	}
	return list
}

// someSessions: n of them, by rising Client.
func someSessions(n int) []impl.Session {
	var list []impl.Session
	for i := range int64(n) {
		list = append(list, impl.Session{Client: 10 * (i + 1), Number: 1000 - i})
	}
	return list
}

// replicaOf: made by the document's words.
func replicaOf(t *testing.T, index int64, sessions []impl.Session, pairs []impl.Pair) impl.Replica {
	t.Helper()
	texts, root := plainTexts(t, pairs)
	return impl.Replica{Index: index, Root: root, Store: storeOf(texts...), Sessions: sessions}
}

func sameReplica(a, b impl.Replica) bool {
	return a.Index == b.Index && a.Root == b.Root && slices.Equal(a.Store, b.Store) && slices.Equal(a.Sessions, b.Sessions)
}

// shownReplica: for what a test tells.
func shownReplica(r impl.Replica) string {
	return fmt.Sprintf("replica at %d, root %.4x, %d nodes %s, sessions %d", r.Index, r.Root, len(r.Store), shownStore(r.Store)[:8], r.Sessions)
}

// copyOf: a copy with spare room behind its lists, and all of that room.
func copyOf(r impl.Replica) (copied, room impl.Replica) {
	copied, room = r, r
	copied.Store, room.Store = withRoom(r.Store)
	room.Sessions = append(slices.Clone(r.Sessions), impl.Session{Client: -7}, impl.Session{Client: -7})
	copied.Sessions = room.Sessions[:len(r.Sessions)]
	return copied, room
}

// overwrite leaves nothing in the lists of what was answered as it was.
func overwrite(r impl.Replica) {
	for i := range r.Store {
		r.Store[i] = impl.Stored{Hash: "written"}
	}
	for i := range r.Sessions {
		r.Sessions[i] = impl.Session{Client: -8}
	}
	_ = append(r.Store, impl.Stored{Hash: "written"})
	_ = append(r.Sessions, impl.Session{Client: -8})
}

// stateOf: what a replica is made of.
type stateOf struct {
	index    int64
	sessions []impl.Session
	pairs    []impl.Pair
}

func rightStates() []stateOf {
	list := []stateOf{
		{0, nil, nil}, {1, nil, nil}, {impl.MaxNumber, nil, nil}, {impl.MaxNumber - 1, nil, pairsOf("a", "1")},
		{5, sessionsOf(1, 1), nil}, {5, sessionsOf(impl.MaxNumber, impl.MaxNumber), nil},
		{5, sessionsOf(1, impl.MaxNumber, 2, 1, impl.MaxNumber, 7), pairsOf("a", "1")},
		{0, someSessions(6), numberPairs(60)}, {impl.MaxNumber, someSessions(6), somePairs(60)},
		{7, sessionsOf(1, 9, 2, 8, 3, 7, 4, 6, 5, 5, 6, 4), pairsOf("", "\x00", "\x00", "\x80")},
	}
	for i, pairs := range pairSets() {
		list = append(list, stateOf{int64(i * i * i * i), someSessions(i % 7), pairs})
	}
	for n := range 7 {
		list = append(list, stateOf{127 + int64(n), someSessions(n), pairsOf("do", "verb", "dog", "puppy")})
	}
	for _, n := range rightNumbers() {
		list = append(list, stateOf{n, sessionsOf(n, n), nil}, stateOf{n, sessionsOf(n, 1), pairsOf("a", letters(60))}, stateOf{1, sessionsOf(n, impl.MaxNumber+1-n), pairsOf(letters(12), "1")})
	}
	return list
}

// replicaTexts: the texts whose list a replica's text is.
func replicaTexts(s stateOf) []string {
	texts := []string{plainNumber(s.index), plainNumber(int64(len(s.sessions)))}
	for _, session := range s.sessions {
		texts = append(texts, plainNumber(session.Client), plainNumber(session.Number))
	}
	for _, pair := range s.pairs {
		texts = append(texts, pair.Key, pair.Value)
	}
	return texts
}

type wrongReplica struct {
	why string
	r   impl.Replica
}

// wrongReplicas: not right, one way or another.
func wrongReplicas(t *testing.T) []wrongReplica {
	t.Helper()
	pairs := pairsOf("do", "verb", "dog", "puppy", "horse", "stallion")
	right := replicaOf(t, 5, someSessions(3), pairs)
	list := []wrongReplica{{"nothing", impl.Replica{}}}
	change := func(why string, turn func(r *impl.Replica)) {
		for _, r := range []impl.Replica{right, replicaOf(t, 0, nil, nil)} {
			turn(&r)
			list = append(list, wrongReplica{why, r})
		}
	}
	for _, index := range []int64{-1, -2, impl.MaxNumber + 1, impl.MaxNumber + 2, math.MaxInt64, math.MinInt64} {
		change("an Index", func(r *impl.Replica) { r.Index = index })
	}
	for _, sessions := range wrongSessions() {
		change("sessions", func(r *impl.Replica) { r.Sessions = sessions })
	}
	for _, root := range []string{"", "x", hash(1), right.Root[:31], right.Root + "\x00", impl.EmptyRoot()[:31], impl.EmptyRoot() + "x", trieRoot(t, pairs[:2]), right.Store[0].Hash, right.Store[1].Hash} {
		if root != right.Root {
			change("a Root", func(r *impl.Replica) { r.Root = root })
		}
	}
	for i := range right.Store {
		some := right
		some.Store = slices.Delete(slices.Clone(right.Store), i, i+1)
		list = append(list, wrongReplica{"a node less", some})
		some.Root = impl.EmptyRoot()
		list = append(list, wrongReplica{"EmptyRoot with a store", some})
	}
	for _, more := range append(leafTexts(0, 3), textsIn(trieNodes(t, pairsOf("do", "noun", "dog", "hound")))...) {
		change("a node more", func(r *impl.Replica) { r.Store = storeOf(append(textsIn(r.Store), more)...) })
	}
	for _, store := range append(wrongStores(t), storeOf(leafTexts(0, 400)...), trieNodes(t, pairs[:2])) {
		change("another Store", func(r *impl.Replica) { r.Store = store })
	}
	list = append(list, wrongReplica{"EmptyRoot with a store", impl.Replica{Root: impl.EmptyRoot(), Store: right.Store}}, wrongReplica{"a root without a store", impl.Replica{Root: right.Root}})
	leaf := leafItem(t, "\x01", "1")
	long := longItem(t, "\x06", leaf)
	list = append(list, wrongReplica{"a root that no pairs have", impl.Replica{Root: librarySum(long), Store: storeOf(leaf, long)}})
	// The inner nodes of a trie are a trie themselves, without those above.
	inner := replicaOf(t, 1, nil, pairsOf("", "verb", "g", "puppy"))
	inner.Store = storeOf(append(textsIn(inner.Store), longItem(t, "\x06\x04\x06\x0f", branchItem(t, map[int]string{6: leafItem(t, "\x07", "puppy")}, "verb")))...)
	return append(list, wrongReplica{"a node above the root", inner})
}

func wrongSessions() [][]impl.Session {
	list := [][]impl.Session{
		someSessions(7), someSessions(8), someSessions(100),
		sessionsOf(1, 1, 1, 1), sessionsOf(1, 1, 1, 2), sessionsOf(1, 2, 1, 1), sessionsOf(2, 1, 1, 2), sessionsOf(1, 1, 3, 1, 2, 1), sessionsOf(3, 1, 1, 1, 2, 1),
		sessionsOf(1, 1, 2, 1, 2, 1), sessionsOf(1, 1, 2, 1, 1, 1), {{}},
	}
	for _, n := range wrongNumbers() {
		list = append(list, sessionsOf(n, 1), sessionsOf(1, n), sessionsOf(1, 1, n, 1), sessionsOf(n, 1, 5, 1), sessionsOf(1, n, 2, 1), sessionsOf(1, 1, 2, n))
	}
	return list
}

func TestReplicasThatAreRight(t *testing.T) {
	for _, s := range rightStates() {
		r := replicaOf(t, s.index, s.sessions, s.pairs)
		given, room := copyOf(r)
		_, kept := copyOf(r)
		if !impl.ReplicaOk(given) {
			t.Errorf("ReplicaOk of a %s", shownReplica(r))
		}
		pairs, ok := impl.ReplicaPairs(given)
		if !ok || !slices.Equal(pairs, s.pairs) {
			t.Errorf("ReplicaPairs of a %s: %.60q, %v; want %.60q", shownReplica(r), pairs, ok, s.pairs)
		}
		for i := range pairs {
			pairs[i] = impl.Pair{}
		}
		if again, _ := impl.ReplicaPairs(given); !slices.Equal(again, s.pairs) || !sameReplica(room, kept) {
			t.Error("ReplicaOk or ReplicaPairs shares memory or writes into its argument")
		}
	}
	empty := impl.Replica{Root: impl.EmptyRoot(), Store: []impl.Stored{}, Sessions: []impl.Session{}}
	if !impl.ReplicaOk(empty) {
		t.Error("ReplicaOk with empty lists")
	}
	if impl.MaxClients != 6 {
		t.Error("another limit")
	}
}

func TestReplicasThatAreWrong(t *testing.T) {
	for _, c := range wrongReplicas(t) {
		if impl.ReplicaOk(c.r) {
			t.Errorf("ReplicaOk, %s: of a %s", c.why, shownReplica(c.r))
		}
		if pairs, ok := impl.ReplicaPairs(c.r); ok || len(pairs) != 0 {
			t.Errorf("ReplicaPairs, %s: of a %s: %.60q, %v", c.why, shownReplica(c.r), pairs, ok)
		}
		if s := impl.ReplicaText(c.r); s != "" {
			t.Errorf("ReplicaText, %s: of a %s: %.60q", c.why, shownReplica(c.r), s)
		}
		for _, b := range []impl.Batch{batchOf(1, 1, "a", "1"), batchOf(10, 1, "a", "1"), {}} {
			for _, index := range []int64{c.r.Index + 1, c.r.Index, 1, 0} {
				wantApplied(t, c.why, c.r, index, b, impl.Replica{}, impl.ApWrong)
			}
		}
	}
}

func TestNewReplica(t *testing.T) {
	r := impl.ReplicaNew()
	if r.Index != 0 || r.Root != librarySum("\x80") || len(r.Store) != 0 || len(r.Sessions) != 0 || !impl.ReplicaOk(r) {
		t.Errorf("ReplicaNew: a %s", shownReplica(r))
	}
	if pairs, ok := impl.ReplicaPairs(r); !ok || len(pairs) != 0 {
		t.Errorf("ReplicaPairs of a new one: %q, %v", pairs, ok)
	}
	if s := impl.ReplicaText(r); s != "\xc2\x80\x80" {
		t.Errorf("ReplicaText of a new one: %q", s)
	}
}

// wantApplied: this code, this whole replica, and nothing written.
func wantApplied(t *testing.T, why string, r impl.Replica, index int64, b impl.Batch, want impl.Replica, code int64) {
	t.Helper()
	given, room := copyOf(r)
	_, kept := copyOf(r)
	ops, opsRoom := opsWithRoom(b.Ops)
	keptOps := slices.Clone(opsRoom)
	then, c := impl.Applied(given, index, impl.Batch{Client: b.Client, Number: b.Number, Ops: ops})
	if c != code || !sameReplica(then, want) {
		t.Errorf("Applied, %s: a %s, index %d, %s: %d, a %s; want %d, a %s", why, shownReplica(r), index, shownBatch(b), c, shownReplica(then), code, shownReplica(want))
	}
	if c != impl.ApWrong && !impl.ReplicaOk(then) {
		t.Errorf("Applied, %s: index %d, %s: a %s, which is not right", why, index, shownBatch(b), shownReplica(then))
	}
	overwrite(then)
	if !sameReplica(room, kept) || !slices.Equal(opsRoom, keptOps) {
		t.Errorf("Applied, %s: shares memory or writes into an argument", why)
	}
}

// turnedTo: the replica with another Index alone.
func turnedTo(r impl.Replica, index int64) impl.Replica {
	r.Index = index
	return r
}

func TestBatchesAreDone(t *testing.T) {
	pairs := pairsOf("do", "verb", "dog", "puppy")
	r := replicaOf(t, 5, sessionsOf(10, 4, 20, 7, 30, 1), pairs)
	for _, c := range []struct {
		b        impl.Batch
		sessions []impl.Session
	}{
		{batchOf(10, 5, "a", "1"), sessionsOf(10, 5, 20, 7, 30, 1)},
		{batchOf(20, 8, "dog", ""), sessionsOf(10, 4, 20, 8, 30, 1)},
		{batchOf(30, 2, "none", ""), sessionsOf(10, 4, 20, 7, 30, 2)},
		{batchOf(10, 6, "do", "", "dog", ""), sessionsOf(10, 6, 20, 7, 30, 1)},
		{batchOf(20, 100, "a", "1", "a", "2", "a", "", "a", "3"), sessionsOf(10, 4, 20, 100, 30, 1)},
		{batchOf(30, impl.MaxNumber, "", letters(60)), sessionsOf(10, 4, 20, 7, 30, impl.MaxNumber)},
		{batchOf(1, 1, "a", "1"), sessionsOf(1, 1, 10, 4, 20, 7, 30, 1)},
		{batchOf(9, 12, "a", "1"), sessionsOf(9, 12, 10, 4, 20, 7, 30, 1)},
		{batchOf(11, 1, "a", "1"), sessionsOf(10, 4, 11, 1, 20, 7, 30, 1)},
		{batchOf(29, 1, "a", "1"), sessionsOf(10, 4, 20, 7, 29, 1, 30, 1)},
		{batchOf(impl.MaxNumber, impl.MaxNumber, letters(12), "1"), sessionsOf(10, 4, 20, 7, 30, 1, impl.MaxNumber, impl.MaxNumber)},
		{impl.Batch{Client: 10, Number: 5, Ops: someOps(12)}, sessionsOf(10, 5, 20, 7, 30, 1)},
	} {
		wantApplied(t, "done", r, 6, c.b, replicaOf(t, 6, c.sessions, plainOps(pairs, c.b.Ops)), impl.ApDone)
	}
	for _, b := range rightBatches() {
		wantApplied(t, "the first one", impl.ReplicaNew(), 1, b, replicaOf(t, 1, sessionsOf(b.Client, b.Number), plainOps(nil, b.Ops)), impl.ApDone)
	}
}

func TestBatchesOfNoForm(t *testing.T) {
	r := replicaOf(t, 5, sessionsOf(1, 4, 2, 7), pairsOf("do", "verb", "dog", "puppy"))
	full := replicaOf(t, 5, someSessions(6), numberPairs(60))
	for _, b := range wrongBatches() {
		wantApplied(t, "a wrong batch", r, 6, b, r, impl.ApForm)
		wantApplied(t, "a wrong batch", impl.ReplicaNew(), 1, b, impl.ReplicaNew(), impl.ApForm)
		// What is wrong with the batch is told ahead of all that follows.
		wantApplied(t, "a wrong batch and a gap", r, 7, b, r, impl.ApForm)
		wantApplied(t, "a wrong batch and a gap", r, 5, b, r, impl.ApForm)
		wantApplied(t, "a wrong batch beyond what there is room for", full, 6, b, full, impl.ApForm)
	}
	last := replicaOf(t, impl.MaxNumber, nil, nil)
	wantApplied(t, "a wrong batch at the last index", last, impl.MaxNumber+1, impl.Batch{}, last, impl.ApForm)
	wantApplied(t, "a wrong batch with an old number", r, 6, withNumbers(1, 1, someOps(13)), r, impl.ApForm)
}

func withNumbers(client, number int64, ops []impl.Op) impl.Batch {
	return impl.Batch{Client: client, Number: number, Ops: ops}
}

func TestGaps(t *testing.T) {
	r := replicaOf(t, 5, sessionsOf(1, 4, 2, 7), pairsOf("do", "verb", "dog", "puppy"))
	full := replicaOf(t, 5, someSessions(6), numberPairs(60))
	for _, index := range []int64{5, 7, 4, 3, 1, 0, -1, -5, -6, 8, impl.MaxNumber, impl.MaxNumber + 1, 1<<32 + 6, math.MaxInt64, math.MinInt64} {
		wantApplied(t, "a gap", r, index, batchOf(1, 5, "a", "1"), r, impl.ApGap)
		wantApplied(t, "a gap and an old number", r, index, batchOf(1, 4, "a", "1"), r, impl.ApGap)
		wantApplied(t, "a gap and a seventh client", full, index, batchOf(1, 1, "a", "1"), full, impl.ApGap)
		wantApplied(t, "a gap and a 61st pair", full, index, batchOf(10, 1001, "a", "1"), full, impl.ApGap)
	}
	for _, index := range []int64{0, 2, -1, math.MinInt64, math.MaxInt64} {
		wantApplied(t, "a gap", impl.ReplicaNew(), index, batchOf(1, 5, "a", "1"), impl.ReplicaNew(), impl.ApGap)
	}
	almost, last := replicaOf(t, impl.MaxNumber-1, sessionsOf(1, 4), nil), replicaOf(t, impl.MaxNumber, sessionsOf(1, 4), nil)
	wantApplied(t, "the last index", almost, impl.MaxNumber, batchOf(1, 5, "a", "1"), replicaOf(t, impl.MaxNumber, sessionsOf(1, 5), pairsOf("a", "1")), impl.ApDone)
	wantApplied(t, "the last index", almost, impl.MaxNumber, batchOf(1, 4, "a", "1"), last, impl.ApOld)
	for _, index := range []int64{impl.MaxNumber + 1, impl.MaxNumber, impl.MaxNumber - 1, impl.MaxNumber + 2, 0, 1} {
		wantApplied(t, "no index is left", last, index, batchOf(1, 5, "a", "1"), last, impl.ApGap)
		wantApplied(t, "no index is left", last, index, batchOf(1, 4, "a", "1"), last, impl.ApGap)
	}
}

func TestBatchesAreDoneOnce(t *testing.T) {
	r := replicaOf(t, 5, sessionsOf(10, 4, 20, 7), pairsOf("do", "verb", "dog", "puppy"))
	for _, b := range []impl.Batch{
		batchOf(10, 4, "a", "1"), batchOf(10, 3, "a", "1"), batchOf(10, 1, "do", ""), batchOf(20, 7, "a", "1"), batchOf(20, 6, "do", "verb"), batchOf(20, 4, "none", ""), batchOf(20, 5, "a", "1"),
	} {
		wantApplied(t, "an old number", r, 6, b, turnedTo(r, 6), impl.ApOld)
	}
	full := replicaOf(t, 5, someSessions(6), numberPairs(60))
	wantApplied(t, "an old number and a 61st pair", full, 6, batchOf(10, 1000, "a", "1"), turnedTo(full, 6), impl.ApOld)
	wantApplied(t, "an old number and a 61st pair", full, 6, batchOf(60, 1, "a", "1"), turnedTo(full, 6), impl.ApOld)
	wantApplied(t, "MaxNumber again", replicaOf(t, 0, sessionsOf(1, impl.MaxNumber), nil), 1, batchOf(1, impl.MaxNumber, "a", "1"), replicaOf(t, 1, sessionsOf(1, impl.MaxNumber), nil), impl.ApOld)
	for _, b := range []impl.Batch{batchOf(3, 2, "a", "1"), batchOf(1, 1, "a", "1", "b", ""), batchOf(impl.MaxNumber, impl.MaxNumber, "a", "1")} {
		once, code := impl.Applied(impl.ReplicaNew(), 1, b)
		if code != impl.ApDone {
			t.Fatalf("Applied of %s: %d", shownBatch(b), code)
		}
		other := withNumbers(b.Client, b.Number, opsOf("b", "another one"))
		for index := int64(2); index < 5; index++ {
			wantApplied(t, "sent again", turnedTo(once, index-1), index, b, turnedTo(once, index), impl.ApOld)
			wantApplied(t, "its number again", turnedTo(once, index-1), index, other, turnedTo(once, index), impl.ApOld)
		}
	}
	// Each client counts by itself.
	wantApplied(t, "another client's number", r, 6, batchOf(20, 8, "a", "1"), replicaOf(t, 6, sessionsOf(10, 4, 20, 8), pairsOf("a", "1", "do", "verb", "dog", "puppy")), impl.ApDone)
	wantApplied(t, "another client's number", r, 6, batchOf(10, 7, "a", "1"), replicaOf(t, 6, sessionsOf(10, 7, 20, 7), pairsOf("a", "1", "do", "verb", "dog", "puppy")), impl.ApDone)
	wantApplied(t, "an elder number of a new client", r, 6, batchOf(15, 1, "a", "1"), replicaOf(t, 6, sessionsOf(10, 4, 15, 1, 20, 7), pairsOf("a", "1", "do", "verb", "dog", "puppy")), impl.ApDone)
}

func TestNoRoomForABatch(t *testing.T) {
	five := replicaOf(t, 5, someSessions(5), pairsOf("do", "verb"))
	wantApplied(t, "a sixth client", five, 6, batchOf(60, 9, "a", "1"), replicaOf(t, 6, append(someSessions(5), sessionsOf(60, 9)...), pairsOf("a", "1", "do", "verb")), impl.ApDone)
	wantApplied(t, "a sixth client, the first", five, 6, batchOf(1, 9, "a", "1"), replicaOf(t, 6, append(sessionsOf(1, 9), someSessions(5)...), pairsOf("a", "1", "do", "verb")), impl.ApDone)
	six := replicaOf(t, 5, someSessions(6), pairsOf("do", "verb"))
	for _, client := range []int64{1, 15, 61, impl.MaxNumber} {
		for _, b := range []impl.Batch{batchOf(client, 1, "a", "1"), batchOf(client, 9, "none", ""), batchOf(client, impl.MaxNumber, "do", "")} {
			wantApplied(t, "a seventh client", six, 6, b, turnedTo(six, 6), impl.ApFull)
		}
	}
	for i, session := range someSessions(6) {
		sessions := someSessions(6)
		sessions[i].Number = 1001
		wantApplied(t, "one of six clients", six, 6, batchOf(session.Client, 1001, "a", "1"), replicaOf(t, 6, sessions, pairsOf("a", "1", "do", "verb")), impl.ApDone)
		wantApplied(t, "one of six clients, again", six, 6, batchOf(session.Client, session.Number, "a", "1"), turnedTo(six, 6), impl.ApOld)
	}
	pairs := numberPairs(60)
	full := replicaOf(t, 5, sessionsOf(1, 1), pairs)
	for _, b := range []impl.Batch{batchOf(1, 2, "a", "1"), batchOf(2, 1, "a", "1"), batchOf(1, 2, "0", "", "a", "1", "b", "2"), batchOf(1, 2, "", "1"), batchOf(1, 2, "none", "", "a", "1")} {
		wantApplied(t, "a 61st pair", full, 6, b, turnedTo(full, 6), impl.ApFull)
	}
	for _, b := range []impl.Batch{batchOf(1, 2, "0", "x"), batchOf(1, 2, "0", ""), batchOf(1, 2, "a", "1", "0", ""), batchOf(1, 2, "a", "1", "b", "2", "0", "", "1", ""), batchOf(1, 2, "a", "1", "a", "")} {
		wantApplied(t, "60 pairs", full, 6, b, replicaOf(t, 6, sessionsOf(1, 2), plainOps(pairs, b.Ops)), impl.ApDone)
	}
	almost := replicaOf(t, 5, sessionsOf(1, 1), pairs[:59])
	wantApplied(t, "the 60th pair", almost, 6, batchOf(1, 2, "a", "1"), replicaOf(t, 6, sessionsOf(1, 2), plainSet(pairs[:59], "a", "1")), impl.ApDone)
	wantApplied(t, "two pairs more", almost, 6, batchOf(1, 2, "a", "1", "b", "2"), turnedTo(almost, 6), impl.ApFull)
	both := replicaOf(t, 5, someSessions(6), pairs)
	wantApplied(t, "a seventh client and a 61st pair", both, 6, batchOf(1, 1, "a", "1"), turnedTo(both, 6), impl.ApFull)
	// A batch that found no room was not done: its number may come again.
	then, _ := impl.Applied(full, 6, batchOf(1, 2, "a", "1"))
	wantApplied(t, "the number again", then, 7, batchOf(1, 2, "0", ""), replicaOf(t, 7, sessionsOf(1, 2), pairs[1:]), impl.ApDone)
}

// The digests were worked out apart from the program.
func TestKnownReplicas(t *testing.T) {
	keys := func(letter string, n int, value string) []impl.Op {
		var ops []impl.Op
		for i := range n {
			number := fmt.Sprint(i)
			ops = append(ops, impl.Op{Key: letter + number, Value: strings.ReplaceAll(value, "#", number), Cut: value == ""})
		}
		return ops
	}
	r := impl.ReplicaNew()
	for i, c := range []struct {
		index, client, number int64
		ops                   []impl.Op
		code, then            int64
		pairs, sessions       int
		root                  string
		nodes                 int
		all                   string
	}{
		{1, 7, 1, opsOf("dog", "puppy", "do", "verb"), impl.ApDone, 1, 2, 1, "b804ed1ea4c7b8b2de8c4355823111cb1a2ee4b32bf5a4ca6ab534efea623963", 3, "0bdebd0c4c3f06872e012ac7275909c8b33b9bf731d2bb0addaeb0a278ef7da5"},
		{2, 3, 5, opsOf("doge", "coin", "", "root", "horse", "stallion"), impl.ApDone, 2, 5, 2, "24e87a564854ef3fd118611057c27a6cd793fd0a418cf7961f11c807f48e8254", 8, "57d57cfa7f4a6a14c9639ee61ffbb8c2875b5a97898211957360b6150febd17f"},
		{3, 7, 1, opsOf("dog", "again"), impl.ApOld, 3, 5, 2, "24e87a564854ef3fd118611057c27a6cd793fd0a418cf7961f11c807f48e8254", 8, "80f08856db696ef846c4b3ed2b1ee246c1434890a93ff44222053643b503c961"},
		{4, 7, 2, opsOf("do", "", "none", "", "dog", "hound"), impl.ApDone, 4, 4, 2, "1533db74344eee1e86df22651c02ddd5dd49fad67fe815ca14401fa8d938a0d5", 6, "23ec849afef84e6d66b8b746185030cf9e334e43ccfad941042ad15609d08746"},
		{5, 3, 4, opsOf("x", "1"), impl.ApOld, 5, 4, 2, "1533db74344eee1e86df22651c02ddd5dd49fad67fe815ca14401fa8d938a0d5", 6, "6b27233bcfbcc3c30da598a54c008390b7981298cfc3b30541b9e3ba630c6d20"},
		{7, 3, 6, opsOf("x", "1"), impl.ApGap, 5, 4, 2, "1533db74344eee1e86df22651c02ddd5dd49fad67fe815ca14401fa8d938a0d5", 6, "6b27233bcfbcc3c30da598a54c008390b7981298cfc3b30541b9e3ba630c6d20"},
		{6, 0, 6, opsOf("x", "1"), impl.ApForm, 5, 4, 2, "1533db74344eee1e86df22651c02ddd5dd49fad67fe815ca14401fa8d938a0d5", 6, "6b27233bcfbcc3c30da598a54c008390b7981298cfc3b30541b9e3ba630c6d20"},
		{6, impl.MaxNumber, impl.MaxNumber, opsOf("", "", strings.Repeat("a", 12), letters(60)), impl.ApDone, 6, 4, 3, "b90ba6ca8fda95365d436d8253040df916320c6a97ea9086974cf1b9a24f517a", 7, "1b462bd03dd3a02a1140fef94ef6de15c9f208f1e1b2fbcdbe2a35bc5ec11e35"},
		{7, 1, 9, keys("k", 12, "v#"), impl.ApDone, 7, 16, 4, "1d3d49f3dd1ebe09a209a1c7026173d50f1966e434a9884c6ae91e0194e59c0f", 22, "24606153de91ec7be4f150d539bc2342c48a214464641d1cad089e288d4affbb"},
		{8, 2, 1, keys("b", 12, "w"), impl.ApDone, 8, 28, 5, "64e27e3d07762b2431919987292261341e84eb67e01fb88e46d2abd0951e5fb4", 27, "6050544136a93f88defbee50bc4a41615b13caa87c686e93087f01147eed4b66"},
		{9, 5, 300, keys("c", 12, "w"), impl.ApDone, 9, 40, 6, "b552f3551033c6847f791aa71874345a3a671def3a454e76a3510c1cde464fe3", 27, "e29d0ffddad71a98b0983480cd00fcab9ff909c8954cf797f234ec7c7359e8a2"},
		{10, 6, 1, opsOf("x", "1"), impl.ApFull, 10, 40, 6, "b552f3551033c6847f791aa71874345a3a671def3a454e76a3510c1cde464fe3", 27, "389be1a4c92021f83df5c65b5d711ac00776e3116f07e3f537442e4e9a8fe53b"},
		{10, 5, 300, opsOf("x", "1"), impl.ApGap, 10, 40, 6, "b552f3551033c6847f791aa71874345a3a671def3a454e76a3510c1cde464fe3", 27, "389be1a4c92021f83df5c65b5d711ac00776e3116f07e3f537442e4e9a8fe53b"},
		{11, 5, 301, keys("d", 12, "w"), impl.ApDone, 11, 52, 6, "ddf94d510057eac5f38b03fde8df27f902148d25eef3664c144a9d382c6afe3b", 28, "fdb37f30b933f63cd653a20c23cc03b132f87a4dafc74f805bf289d07c8d0330"},
		{12, 5, 302, keys("e", 12, "w"), impl.ApFull, 12, 52, 6, "ddf94d510057eac5f38b03fde8df27f902148d25eef3664c144a9d382c6afe3b", 28, "cae28118e34eccc52902f33f76cea49d1f33c5264d4823447452f206b8a93932"},
		{13, 5, 303, keys("e", 8, "w"), impl.ApDone, 13, 60, 6, "6034883e10b09a24d4434f2fd5c23e48723eec874006d617529581d8ae152e0f", 30, "8479d40a242a4ba5f5d91aed3005eec7e3d5bcb3fac755cb3867f4289aadbd54"},
		{14, 5, 304, keys("f", 12, "w"), impl.ApFull, 14, 60, 6, "6034883e10b09a24d4434f2fd5c23e48723eec874006d617529581d8ae152e0f", 30, "f069e01766f89b1269ccdafd837eae0148f425d1e5b70ca140be37cffc75432c"},
		{15, 5, 304, keys("e", 8, ""), impl.ApDone, 15, 52, 6, "ddf94d510057eac5f38b03fde8df27f902148d25eef3664c144a9d382c6afe3b", 28, "10b7ba8eac2600bd15631597650e90e1fba45e766fe78a3b54a315df594f1ed0"},
		{16, impl.MaxNumber, 1, opsOf("x", ""), impl.ApOld, 16, 52, 6, "ddf94d510057eac5f38b03fde8df27f902148d25eef3664c144a9d382c6afe3b", 28, "4f7d4305499048f84ff619273583e8dd170e5340cea1c0c57590219519c4ec71"},
		{17, 2, 2, opsOf("x", "1"), impl.ApDone, 17, 53, 6, "a673475d7f5fa5dc18f182c4041766a4883748cb2e6c441faa941bcf053a1a72", 29, "2530b04a240f65a23f16edc0af29cfba8ef2337fb3f48a7ff5c8e76c75b28c3e"},
	} {
		var code int64
		r, code = impl.Applied(r, c.index, withNumbers(c.client, c.number, c.ops))
		pairs, ok := impl.ReplicaPairs(r)
		if code != c.code || r.Index != c.then || !ok || len(pairs) != c.pairs || len(r.Sessions) != c.sessions {
			t.Fatalf("batch %d: %d, a %s, %d pairs, %v", i, code, shownReplica(r), len(pairs), ok)
		}
		all := ""
		for _, stored := range r.Store {
			all += stored.Hash + stored.Text
		}
		if impl.Hex(r.Root) != c.root || len(r.Store) != c.nodes || impl.Hex(librarySum(librarySum(all)+impl.ReplicaText(r))) != c.all {
			t.Fatalf("batch %d: a %s, %q", i, shownReplica(r), impl.ReplicaText(r))
		}
	}
}

// A replica against the document's words, batch by batch; what is done is what ApplyPairs makes of no pairs.
func TestReplicasBatchByBatch(t *testing.T) {
	source := rand.New(rand.NewSource(13))
	counts := map[int64]int{}
	for range 12 {
		r := impl.ReplicaNew()
		last := map[int64]int64{}
		var pairs, plain []impl.Pair
		for index := int64(1); index <= 40; index++ {
			b := withNumbers(1+source.Int63n(8), 1+source.Int63n(index+2), randomOps(source, 1+source.Intn(12)))
			code, behind := int64(impl.ApDone), plainOps(plain, b.Ops)
			_, known := last[b.Client]
			switch {
			case last[b.Client] >= b.Number:
				code = impl.ApOld
			case len(behind) > impl.MaxPairs, !known && len(last) == impl.MaxClients:
				code = impl.ApFull
			default:
				last[b.Client], plain = b.Number, behind
				var ok bool
				if pairs, ok = impl.ApplyPairs(pairs, b); !ok {
					t.Fatal("ApplyPairs refuses")
				}
			}
			var sessions []impl.Session
			for client := range int64(10) {
				if number, ok := last[client]; ok {
					sessions = append(sessions, impl.Session{Client: client, Number: number})
				}
			}
			want := replicaOf(t, index, sessions, plain)
			wantApplied(t, "batch by batch", r, index, b, want, code)
			r, _ = impl.Applied(r, index, b)
			if has, ok := impl.ReplicaPairs(r); !ok || !slices.Equal(has, pairs) {
				t.Fatalf("ReplicaPairs behind %d batches: %.60q, %v; want %.60q", index, has, ok, pairs)
			}
			wantReplica(t, impl.ReplicaText(r), r)
			counts[code]++
		}
	}
	if counts[impl.ApDone] < 50 || counts[impl.ApOld] < 50 || counts[impl.ApFull] < 20 {
		t.Errorf("codes: %v", counts)
	}
}

// Batches that come again in between change nothing but the Index.
func TestBatchesSentAgain(t *testing.T) {
	batches := []impl.Batch{batchOf(1, 1, "a", "1"), batchOf(2, 1, "a", "", "b", "2"), batchOf(1, 2, "c", "3"), batchOf(3, 7, "b", "", "a", "4"), batchOf(2, 5, "d", "5")}
	var pairs []impl.Pair
	for _, b := range batches {
		pairs = plainOps(pairs, b.Ops)
	}
	source := rand.New(rand.NewSource(14))
	for range 20 {
		r := impl.ReplicaNew()
		for i, b := range batches {
			r, _ = impl.Applied(r, r.Index+1, b)
			for range source.Intn(4) {
				again := batches[source.Intn(i+1)]
				then, code := impl.Applied(r, r.Index+1, again)
				if code != impl.ApOld || !sameReplica(then, turnedTo(r, r.Index+1)) {
					t.Errorf("%s again: %d, a %s", shownBatch(again), code, shownReplica(then))
				}
				r = then
			}
		}
		if want := replicaOf(t, r.Index, sessionsOf(1, 2, 2, 5, 3, 7), pairs); !sameReplica(r, want) {
			t.Errorf("a %s; want a %s", shownReplica(r), shownReplica(want))
		}
	}
}

func wantReplica(t *testing.T, s string, want impl.Replica) {
	t.Helper()
	if r, ok := impl.ReadReplica(s); !ok || !sameReplica(r, want) {
		t.Errorf("ReadReplica of %.60q: a %s, %v; want a %s", s, shownReplica(r), ok, shownReplica(want))
	}
}

func wantNoReplica(t *testing.T, why, s string) {
	t.Helper()
	if r, ok := impl.ReadReplica(s); ok || !sameReplica(r, impl.Replica{}) {
		t.Errorf("ReadReplica, %s: %.60q: a %s, %v", why, s, shownReplica(r), ok)
	}
}

// wantReplicaAgain: what is read is right, and written again to just its bytes.
func wantReplicaAgain(t *testing.T, s string) {
	t.Helper()
	r, ok := impl.ReadReplica(s)
	if !ok {
		wantNoReplica(t, "refused", s)
		return
	}
	if again := impl.ReplicaText(r); !impl.ReplicaOk(r) || again != s {
		t.Errorf("%.60q is read as a %s, whose text is %.60q", s, shownReplica(r), again)
	}
}

func TestReplicasComeBack(t *testing.T) {
	for _, s := range rightStates() {
		r := replicaOf(t, s.index, s.sessions, s.pairs)
		text := listOf(t, replicaTexts(s)...)
		given, room := copyOf(r)
		_, kept := copyOf(r)
		if got := impl.ReplicaText(given); got != text {
			t.Errorf("ReplicaText of a %s: %.60q; want %.60q", shownReplica(r), got, text)
		}
		if !sameReplica(room, kept) {
			t.Error("ReplicaText writes into its argument")
		}
		wantReplica(t, text, r)
		first, _ := impl.ReadReplica(text)
		overwrite(first)
		wantReplica(t, text, r)
	}
}

func TestKnownReplicaTexts(t *testing.T) {
	for _, c := range []struct {
		text string
		r    impl.Replica
	}{
		{"\xc2\x80\x80", impl.ReplicaNew()},
		{"\xc2\x05\x80", replicaOf(t, 5, nil, nil)},
		{"\xc4\x80\x80a1", replicaOf(t, 0, nil, pairsOf("a", "1"))},
		{"\xc4\x80\x01\x02\x03", replicaOf(t, 0, sessionsOf(2, 3), nil)},
		{"\xc6\x01\x01\x01\x01b2", replicaOf(t, 1, sessionsOf(1, 1), pairsOf("b", "2"))},
		// How many sessions are told parts them from the pairs.
		{"\xc6\x01\x02\x01\x01b2", replicaOf(t, 1, sessionsOf(1, 1, 98, 50), nil)},
		{"\xc6\x01\x80\x01\x01b2", replicaOf(t, 1, nil, pairsOf("\x01", "\x01", "b", "2"))},
		{"\xd5\x85\xe8\xd4\xa5\x10\x00\x01\x85\xe8\xd4\xa5\x10\x00\x82\x01\x2c\x80\x81\x80ab", replicaOf(t, impl.MaxNumber, sessionsOf(impl.MaxNumber, 300), pairsOf("", "\x80", "a", "b"))},
	} {
		if s := impl.ReplicaText(c.r); s != c.text {
			t.Errorf("ReplicaText of a %s: %q; want %q", shownReplica(c.r), s, c.text)
		}
		wantReplica(t, c.text, c.r)
	}
}

func TestNoReplicaIsRead(t *testing.T) {
	for _, text := range textsOfNoNumber() {
		if text != "" {
			wantNoReplica(t, "no Index", listOf(t, text, ""))
			wantNoReplica(t, "no Index", listOf(t, text, "\x01", "\x01", "\x01", "a", "1"))
			wantNoReplica(t, "no number of sessions", listOf(t, "\x01", text, "\x01", "\x01", "a", "1"))
			wantNoReplica(t, "no number of sessions", listOf(t, "\x01", text))
		}
		wantNoReplica(t, "no Client", listOf(t, "\x01", "\x01", text, "\x01", "a", "1"))
		wantNoReplica(t, "no Number", listOf(t, "\x01", "\x01", "\x01", text, "a", "1"))
		wantNoReplica(t, "no second Client", listOf(t, "\x01", "\x02", "\x01", "\x01", text, "\x01"))
		wantNoReplica(t, "no second Number", listOf(t, "\x01", "\x02", "\x01", "\x01", "\x02", text))
	}
	for _, c := range []struct{ why, s string }{
		{"nothing", ""}, {"a text", "a"}, {"an empty text", "\x80"}, {"no texts", "\xc0"}, {"an Index alone", "\xc1\x01"},
		{"a Client without its Number", "\xc3\x01\x01\x01"}, {"a Key without its Value", "\xc3\x01\x80a"}, {"a Key without its Value", "\xc5\x01\x80a1b"},
		{"a Key without its Value", "\xc5\x01\x01\x01\x01a"}, {"a list in a list", "\xc3\xc2\x80\x80"}, {"a long form", "\xf8\x02\x80\x80"}, {"a byte with a head", "\xc3\x81\x01\x80"},
		{"a session told that is not there", "\xc2\x01\x01"}, {"two told, one there", "\xc4\x01\x02\x01\x01"}, {"many told", "\xc4\x01\x7f\x01\x01"}, {"more told than can be", listOf(t, "\x01", "\xe8\xd4\xa5\x10\x00", "\x01", "\x01")},
		{"a pair taken as a session that does not rise", "\xc6\x01\x02\x62\x01a1"}, {"a pair taken as a session with a Client 0", "\xc6\x01\x02\x01\x01\x801"}, {"a pair taken as a session with a nought ahead", listOf(t, "\x01", "\x02", "\x01", "\x01", "a", "\x00\x01")},
		{"a session taken as a pair that does not rise", "\xc8\x01\x01\x01\x01\x62\x01a1"}, {"a session taken as a pair that is there", "\xc6\x01\x80a1a1"},
		{"a value of \"\"", "\xc4\x01\x80a\x80"}, {"a value of \"\"", "\xc4\x01\x80\x80\x80"}, {"a value of \"\" behind", "\xc6\x01\x80a1b\x80"}, {"a value of \"\" ahead", "\xc6\x01\x80a\x80b2"},
		{"a value of 61", listOf(t, "\x01", "", "a", letters(61))}, {"a key of 13", listOf(t, "\x01", "", letters(13), "1")},
		{"many texts", listOf(t, strings.Split(strings.Repeat("\x01", impl.MaxRlp), "")...)}, {"too long", letters(1 << 20)},
	} {
		wantNoReplica(t, c.why, c.s)
	}
	for _, sessions := range wrongSessions() {
		if !slices.ContainsFunc(sessions, func(s impl.Session) bool { return s.Client < 0 || s.Number < 0 }) {
			wantNoReplica(t, "wrong sessions", listOf(t, replicaTexts(stateOf{1, sessions, nil})...))
			wantNoReplica(t, "wrong sessions", listOf(t, replicaTexts(stateOf{1, sessions, pairsOf("a", "1")})...))
		}
	}
	for _, pairs := range wrongPairs() {
		wantNoReplica(t, "wrong pairs", listOf(t, replicaTexts(stateOf{1, nil, pairs})...))
		wantNoReplica(t, "wrong pairs", listOf(t, replicaTexts(stateOf{1, someSessions(6), pairs})...))
	}
	items := []string{}
	for _, text := range replicaTexts(stateOf{3, someSessions(2), pairsOf("a", "1", "b", "2")}) {
		items = append(items, impl.RlpText(text))
	}
	for place := range items {
		for _, list := range []string{"\xc0", "\xc1\x01", "\xc2\x01\x01"} {
			wantNoReplica(t, "a list in place of a text", impl.RlpList(changedAt(items, place, list)))
		}
	}
}

func TestTurnedTextsOfReplicas(t *testing.T) {
	again := func(s string) { wantReplicaAgain(t, s) }
	for _, s := range rightStates() {
		text := listOf(t, replicaTexts(s)...)
		notWhole(text, func(why, s string) { wantNoReplica(t, why, s) })
		if len(s.pairs) <= 20 { // each one that is still right costs a whole trie
			turnedTexts(text, again)
		}
	}
	shortTexts(15, "\x00\x01\x02ab\x80\x81\x82\xc0\xc1\xc2\xc4\xc5\xc6\xc8", again)
}
