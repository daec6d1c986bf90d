package tests

import (
	"math"
	"math/rand"
	"slices"
	"strconv"
	"strings"
	"testing"

	"loop.example/g00226/impl"
)

func hash(n int) string { return librarySum("hash " + oneByte(n)) }

// kidsAt: sixteen kids, a hash at each of these places.
func kidsAt(places ...int) []string {
	kids := make([]string, 16)
	for _, place := range places {
		kids[place] = hash(place)
	}
	return kids
}

// nibblePath: n nibbles.
func nibblePath(n int) string {
	return strings.Repeat("\x00\x0f\x07", 20)[:n]
}

func leafNode(path, value string) impl.Node {
	return impl.Node{Kind: impl.NdLeaf, Path: path, Value: value}
}

func longNode(path, kid string) impl.Node {
	return impl.Node{Kind: impl.NdLong, Path: path, Kids: []string{kid}}
}

func branchNode(kids []string, value string) impl.Node {
	return impl.Node{Kind: impl.NdBranch, Kids: kids, Value: value}
}

func nodeText(t *testing.T, n impl.Node) string {
	t.Helper()
	text, ok := impl.NodeText(n)
	if !ok {
		t.Fatalf("NodeText of %s refuses", shownNode(n))
	}
	return text
}

// shownNode: for what a test tells.
func shownNode(n impl.Node) string {
	return strconv.FormatInt(n.Kind, 10) + strconv.Quote(n.Path) + strconv.Quote(strings.Join(n.Kids, ",")) + strconv.Quote(n.Value)
}

func sameNode(a, b impl.Node) bool {
	return a.Kind == b.Kind && a.Path == b.Path && a.Value == b.Value && slices.Equal(a.Kids, b.Kids)
}

// rightNodes: each kind of node at each limit, with its text.
func rightNodes(t *testing.T) map[string]impl.Node {
	t.Helper()
	all := map[string]impl.Node{
		"\xc2\x201":                      leafNode("", "1"),
		"\xc2\x371":                      leafNode("\x07", "1"),
		"\xc3\x37\x81\x80":               leafNode("\x07", "\x80"),
		"\xc4\x82\x20\x611":              leafNode("\x06\x01", "1"),
		"\xe2\x10\xa0" + hash(1):         longNode("\x00", hash(1)),
		"\xe2\x1f\xa0" + hash(2):         longNode("\x0f", hash(2)),
		"\xe4\x82\x00\xab\xa0" + hash(3): longNode("\x0a\x0b", hash(3)),
	}
	for _, n := range []int{0, 1, 2, 23, 24} {
		for _, size := range []int{1, 2, 55, 56, 59, 60} {
			path, value := nibblePath(n), strings.Repeat("\xfe", size)
			all[listOf(t, plainPath([]byte(path), true), value)] = leafNode(path, value)
		}
		if n > 0 {
			path := nibblePath(n)
			all[listOf(t, plainPath([]byte(path), false), hash(n))] = longNode(path, hash(n))
		}
	}
	every := []int{0, 1, 2, 3, 4, 5, 6, 7, 8, 9, 10, 11, 12, 13, 14, 15}
	for _, places := range [][]int{{0}, {15}, {0, 1}, {7, 15}, {2, 3, 9}, every[1:], every} {
		for _, value := range []string{"", "\x00", "v", letters(60)} {
			if value != "" || len(places) > 1 {
				all[listOf(t, append(kidsAt(places...), value)...)] = branchNode(kidsAt(places...), value)
			}
		}
	}
	return all
}

// wrongNodes: not right, one way or another.
func wrongNodes() []impl.Node {
	list := []impl.Node{
		{},
		leafNode("", ""), leafNode("\x01", ""), leafNode("", letters(61)), leafNode("\x01", letters(61)),
		leafNode(nibblePath(25), "1"), leafNode("\x10", "1"), leafNode("\x00\x10", "1"), leafNode(nibblePath(23)+"\xff", "1"),
		leafNode(nibblePath(26), "1"), leafNode(strings.Repeat("\x01", 60001), "1"),
		{Kind: impl.NdLeaf, Value: "1", Kids: []string{""}}, {Kind: impl.NdLeaf, Value: "1", Kids: []string{hash(1)}},
		{Kind: impl.NdLeaf, Value: "1", Kids: kidsAt()}, {Kind: impl.NdLeaf, Value: "1", Kids: kidsAt(1, 2)},
		longNode("", hash(1)), longNode(nibblePath(25), hash(1)), longNode("\x10", hash(1)), longNode("\x01\x02\xf0", hash(1)),
		longNode("\x01", ""), longNode("\x01", hash(1)[:31]), longNode("\x01", hash(1)+"x"), longNode("\x01", "x"),
		{Kind: impl.NdLong, Path: "\x01"}, {Kind: impl.NdLong, Path: "\x01", Kids: []string{hash(1), hash(2)}},
		{Kind: impl.NdLong, Path: "\x01", Kids: []string{hash(1), ""}}, {Kind: impl.NdLong, Path: "\x01", Kids: []string{"", hash(1)}},
		{Kind: impl.NdLong, Path: "\x01", Kids: kidsAt(1)}, {Kind: impl.NdLong, Path: "\x01", Kids: []string{hash(1)}, Value: "1"},
		{Kind: impl.NdLong, Path: "\x01", Value: "1"},
		branchNode(nil, ""), branchNode(nil, "1"), branchNode(kidsAt(), ""), branchNode(kidsAt(), "1"),
		branchNode(kidsAt(0), ""), branchNode(kidsAt(15), ""),
		branchNode(kidsAt(1, 2)[:15], ""), branchNode(kidsAt(1, 2)[:15], "1"), branchNode(kidsAt(2, 3)[1:], "1"),
		branchNode(append(kidsAt(1, 2), ""), ""), branchNode(append(kidsAt(1, 2), ""), "1"), branchNode(append(kidsAt(1, 2), hash(1)), "1"),
		branchNode(kidsAt(1, 2), letters(61)), branchNode([]string{hash(1)}, "1"), branchNode([]string{hash(1), hash(2)}, ""),
		{Kind: impl.NdBranch, Path: "\x01", Kids: kidsAt(1, 2)}, {Kind: impl.NdBranch, Path: "\x01", Kids: kidsAt(1, 2), Value: "1"},
	}
	for _, kid := range []string{"x", hash(1)[:31], hash(1) + "x", hash(1) + hash(2)} {
		for _, place := range []int{0, 7, 15} {
			list = append(list, branchNode(changedAt(kidsAt(1, 2, 3), place, kid), "1"))
		}
	}
	for _, kind := range []int64{0, 4, impl.NdBad, -2, -3, 257, 258, 259, 1 << 32, 1<<32 + 1, math.MaxInt64, math.MinInt64, math.MinInt64 + 1} {
		list = append(list, impl.Node{Kind: kind, Value: "1"}, impl.Node{Kind: kind, Path: "\x01", Kids: []string{hash(1)}}, impl.Node{Kind: kind, Kids: kidsAt(1, 2)})
	}
	return list
}

func wantNoNode(t *testing.T, why, s string) {
	t.Helper()
	if n, ok := impl.ReadNode(s); ok || !sameNode(n, impl.Node{}) {
		t.Errorf("ReadNode, %s: %d bytes %.40q: %.60s, %v", why, len(s), s, shownNode(n), ok)
	}
}

func TestNodesComeBack(t *testing.T) {
	for text, n := range rightNodes(t) {
		if s, ok := impl.NodeText(n); !ok || s != text {
			t.Errorf("NodeText of %.80s: %.60q, %v", shownNode(n), s, ok)
		}
		if again, ok := impl.ReadNode(text); !ok || !sameNode(again, n) {
			t.Errorf("ReadNode of %.60q: %.80s, %v", text, shownNode(again), ok)
		}
	}
	empty := impl.Node{Kind: impl.NdLeaf, Kids: []string{}, Value: "1"}
	if s, ok := impl.NodeText(empty); !ok || s != "\xc2\x201" {
		t.Errorf("NodeText with an empty list of kids: %q, %v", s, ok)
	}
}

func TestNodesThatAreWrong(t *testing.T) {
	for _, n := range wrongNodes() {
		if s, ok := impl.NodeText(n); ok || s != "" {
			t.Errorf("NodeText of %.80s: %.40q, %v", shownNode(n), s, ok)
		}
	}
}

func TestNoNodeIsRead(t *testing.T) {
	branch := append(kidsAt(1, 2), "v")
	nested := []string{}
	for _, text := range branch {
		nested = append(nested, impl.RlpText(text))
	}
	for _, c := range []struct{ why, s string }{
		{"nothing", ""}, {"a text", "a"}, {"an empty text", "\x80"}, {"no texts", "\xc0"}, {"one text", "\xc1\x20"},
		{"three texts", "\xc3\x2011"}, {"a list for a path", "\xc2\xc01"}, {"a list for a value", "\xc2\x20\xc0"},
		{"a list with it in it", "\xc3\xc2\x201"}, {"a list for a value", "\xc3\x20\xc11"},
		{"a list for a kid", impl.RlpList(changedAt(nested, 5, "\xc0"))},
		{"a list for a branch's value", impl.RlpList(changedAt(nested, 16, "\xc1v"))},
		{"something behind", "\xc2\x201x"}, {"a byte with a head", "\xc3\x20\x811"}, {"a long form", "\xf8\x02\x201"},
		{"no value", listOf(t, "\x20", "")}, {"61 bytes", listOf(t, "\x20", letters(61))}, {"61 bytes", listOf(t, "\x37", letters(61))},
		{"no flag", listOf(t, "", "1")}, {"a flag of 4", listOf(t, "\x40", "1")}, {"no nought", listOf(t, "\x21", "1")},
		{"25 nibbles", listOf(t, plainPath([]byte(nibblePath(25)), true), "1")},
		{"26 nibbles", listOf(t, plainPath([]byte(nibblePath(26)), true), "1")},
		{"no path", listOf(t, "\x00", hash(1))}, {"25 nibbles", listOf(t, plainPath([]byte(nibblePath(25)), false), hash(1))},
		{"31 bytes", listOf(t, "\x11", hash(1)[:31])}, {"33 bytes", listOf(t, "\x11", hash(1)+"x")}, {"no kid", listOf(t, "\x11", "")},
		{"16 texts", listOf(t, branch[:16]...)}, {"16 texts", listOf(t, branch[1:]...)}, {"18 texts", listOf(t, append(kidsAt(1, 2), "v", "v")...)},
		{"a value alone", listOf(t, append(kidsAt(), "v")...)}, {"a kid alone", listOf(t, append(kidsAt(9), "")...)},
		{"nothing in it", listOf(t, append(kidsAt(), "")...)}, {"61 bytes", listOf(t, append(kidsAt(1, 2), letters(61))...)},
		{"a kid of 31", listOf(t, changedAt(branch, 0, hash(0)[:31])...)}, {"a kid of 33", listOf(t, changedAt(branch, 15, hash(0)+"x")...)},
		{"a kid of 1", listOf(t, changedAt(branch, 1, "x")...)},
		{"many texts", listOf(t, strings.Split(letters(impl.MaxRlp), "")...)},
		{"a long value", listOf(t, "\x20", letters(impl.MaxRlp-4))}, {"a long path", listOf(t, "\x20"+letters(30000), "1")},
		{"too long", letters(1 << 20)},
	} {
		wantNoNode(t, c.why, c.s)
	}
}

// wantReadAgain: what is read is written again to just its bytes.
func wantReadAgain(t *testing.T, s string) {
	t.Helper()
	n, ok := impl.ReadNode(s)
	if !ok {
		wantNoNode(t, "refused", s)
		return
	}
	if again, ok := impl.NodeText(n); !ok || again != s {
		t.Errorf("%.60q is read as %.80s, whose text is %.60q, %v", s, shownNode(n), again, ok)
	}
}

func TestTurnedTextsOfNodes(t *testing.T) {
	for text := range rightNodes(t) {
		for i := range len(text) {
			for _, turn := range []byte{1, 2, 0x10, 0x20, 0x30, 0x80, 0xff} {
				wantReadAgain(t, text[:i]+string([]byte{text[i] ^ turn})+text[i+1:])
			}
			wantReadAgain(t, text[:i]+text[i+1:])
			wantNoNode(t, "cut off", text[:i])
			for _, more := range []string{"\x00", "\x01", "\x80", "\xa0", "\xc0", "\xff"} {
				wantReadAgain(t, text[:i]+more+text[i:])
			}
		}
		for _, behind := range behinds[1:] {
			wantNoNode(t, "something behind", text+behind)
		}
	}
	source := rand.New(rand.NewSource(7))
	for range 50000 {
		s := make([]byte, 1+source.Intn(6))
		for i := range s {
			s[i] = "\x00\x11\x20\x31\x3f\x40\x80\x81\xc0\xc1\xc2\xc3\xc4"[source.Intn(13)]
		}
		wantReadAgain(t, string(s))
	}
}

func TestNodesLeaveTheirArguments(t *testing.T) {
	room := append(kidsAt(1, 2), "spare", "spare")
	kept := slices.Clone(room)
	text := nodeText(t, branchNode(room[:16], "v"))
	if !slices.Equal(room, kept) {
		t.Errorf("NodeText writes into its argument: %q", room)
	}
	first, _ := impl.ReadNode(text)
	first.Kids[0] = "x"
	first.Kids = append(first.Kids, "x")
	if second, _ := impl.ReadNode(text); second.Kids[0] != "" || second.Value != "v" {
		t.Error("two answers share memory")
	}
}

// storeOf: the nodes of these texts, by rising Hash, each once.
func storeOf(texts ...string) []impl.Stored {
	var list []impl.Stored
	for _, text := range texts {
		list = append(list, impl.Stored{Hash: librarySum(text), Text: text})
	}
	slices.SortFunc(list, func(a, b impl.Stored) int { return strings.Compare(a.Hash, b.Hash) })
	return slices.Compact(list)
}

// leafTexts: of n leaves that are not alike, from a number on.
func leafTexts(from, n int) []string {
	var texts []string
	for i := range n {
		texts = append(texts, "\xc5\x20\x83"+oneByte(0xff)+oneByte((from+i)/256)+oneByte((from+i)%256))
	}
	return texts
}

// wrongStores: not right, one way or another, with a trie that is whole in most of them.
func wrongStores(t *testing.T) [][]impl.Stored {
	t.Helper()
	whole := trieNodes(t, pairsOf("do", "verb", "dog", "puppy"))
	change := func(place int, hash, text string) []impl.Stored {
		list := slices.Clone(whole)
		list[place] = impl.Stored{Hash: hash, Text: text}
		return list
	}
	none := "\xc2\x20\x80"
	return [][]impl.Stored{
		{whole[1], whole[0], whole[2]}, {whole[0], whole[2], whole[1]}, {whole[2], whole[1], whole[0]},
		{whole[0], whole[1], whole[1], whole[2]}, {whole[0], whole[1], whole[2], whole[2]}, {whole[0], whole[0]},
		change(0, strings.Repeat("\x00", 32), whole[0].Text), change(2, strings.Repeat("\xff", 32), whole[2].Text),
		change(1, whole[1].Hash, whole[0].Text), change(0, "", whole[0].Text), change(0, whole[0].Hash[:31], whole[0].Text),
		change(2, whole[2].Hash+"\x00", whole[2].Text), change(0, whole[0].Hash, whole[0].Text+"x"), change(0, whole[0].Hash, ""),
		storeOf(whole[0].Text, whole[1].Text, whole[2].Text, none), storeOf(none), storeOf(""), storeOf("\x80"), storeOf("\xc0"),
		storeOf(whole[0].Text, listOf(t, append(kidsAt(1), "")...)), {{}}, {{Hash: whole[0].Hash}}, {{Text: whole[0].Text}},
		storeOf(leafTexts(0, 401)...), storeOf(leafTexts(0, 800)...),
	}
}

func TestStoresThatAreRight(t *testing.T) {
	for _, n := range []int{0, 1, 2, 399, 400} {
		if list := storeOf(leafTexts(0, n)...); len(list) != n || !impl.StoreOk(list) {
			t.Errorf("StoreOk of %d nodes", n)
		}
	}
	for _, pairs := range pairSets() {
		if !impl.StoreOk(trieNodes(t, pairs)) {
			t.Errorf("StoreOk of the nodes of %.40q", pairs)
		}
	}
	for text := range rightNodes(t) {
		if !impl.StoreOk(storeOf(text)) || !impl.StoreOk(storeOf(text, "\xc2\x20z")) {
			t.Errorf("StoreOk with %.40q", text)
		}
	}
	if !impl.StoreOk([]impl.Stored{}) {
		t.Error("StoreOk of an empty list")
	}
	for i, list := range wrongStores(t) {
		if impl.StoreOk(list) {
			t.Errorf("StoreOk of wrong store %d: %.80q", i, list)
		}
	}
}

func TestStoreGet(t *testing.T) {
	for _, list := range [][]impl.Stored{nil, trieNodes(t, numberPairs(60)), storeOf(leafTexts(0, 400)...), trieNodes(t, deepPairs())} {
		for _, stored := range list {
			if text, ok := impl.StoreGet(list, stored.Hash); !ok || text != stored.Text {
				t.Errorf("StoreGet of %x: %.40q, %v", stored.Hash, text, ok)
			}
			other := oneByte(int(stored.Hash[0]^1)) + stored.Hash[1:]
			for _, hash := range []string{stored.Hash[:31], stored.Hash + "\x00", other} {
				if text, ok := impl.StoreGet(list, hash); ok || text != "" {
					t.Errorf("StoreGet of %x: %.40q, %v", hash, text, ok)
				}
			}
		}
		for _, hash := range []string{"", "x", impl.EmptyRoot(), hash(1), strings.Repeat("\x00", 32)} {
			if text, ok := impl.StoreGet(list, hash); ok || text != "" {
				t.Errorf("StoreGet of %x: %.40q, %v", hash, text, ok)
			}
		}
	}
	for i, list := range wrongStores(t) {
		for _, stored := range list {
			if text, ok := impl.StoreGet(list, stored.Hash); ok || text != "" {
				t.Errorf("StoreGet of wrong store %d: %.40q, %v", i, text, ok)
			}
		}
	}
}

// A piece of a hash is none, also where noughts would make it whole.
func TestHashesThatEndWithANought(t *testing.T) {
	for _, text := range leafTexts(0, 3000) {
		list := storeOf(text)
		short := strings.TrimRight(list[0].Hash, "\x00")
		if short == list[0].Hash {
			continue
		}
		if text, ok := impl.StoreGet(list, short); ok || text != "" {
			t.Errorf("StoreGet of %x: %.40q, %v", short, text, ok)
		}
		wantGot(t, list, short, "", impl.GtWrong, "")
		wantNoPairs(t, "a piece of a hash", list, short)
		wantPairsAt(t, list, list[0].Hash, []impl.Pair{{Value: text[3:]}})
	}
}

func wantAdded(t *testing.T, a, b, want []impl.Stored) {
	t.Helper()
	keptA, keptB := slices.Clone(a), slices.Clone(b)
	for _, both := range [][2][]impl.Stored{{a, b}, {b, a}} {
		sum, ok := impl.StoreAdd(both[0], both[1])
		if !ok || !slices.Equal(sum, want) {
			t.Errorf("StoreAdd of %d and %d nodes: %d, %v; want %d", len(a), len(b), len(sum), ok, len(want))
		}
		for i := range sum {
			sum[i] = impl.Stored{}
		}
		if !slices.Equal(a, keptA) || !slices.Equal(b, keptB) {
			t.Fatal("StoreAdd shares memory with an argument")
		}
	}
}

func wantNotAdded(t *testing.T, a, b []impl.Stored) {
	t.Helper()
	for _, both := range [][2][]impl.Stored{{a, b}, {b, a}} {
		if sum, ok := impl.StoreAdd(both[0], both[1]); ok || len(sum) != 0 {
			t.Errorf("StoreAdd of %d and %d nodes: %d, %v", len(both[0]), len(both[1]), len(sum), ok)
		}
	}
}

func TestStoreAdd(t *testing.T) {
	texts := leafTexts(0, 500)
	for _, c := range []struct{ from, to, start, end int }{
		{0, 0, 0, 0}, {0, 0, 0, 1}, {0, 1, 0, 1}, {0, 1, 1, 2}, {0, 10, 5, 15}, {0, 10, 0, 3}, {0, 20, 30, 40},
		{0, 400, 0, 0}, {0, 400, 0, 400}, {0, 400, 100, 300}, {0, 399, 399, 400}, {0, 200, 200, 400}, {0, 300, 1, 400}, {0, 400, 399, 400},
	} {
		wantAdded(t, storeOf(texts[c.from:c.to]...), storeOf(texts[c.start:c.end]...), storeOf(append(slices.Clone(texts[c.from:c.to]), texts[c.start:c.end]...)...))
	}
	for _, c := range []struct{ from, to, start, end int }{{0, 400, 400, 401}, {0, 400, 399, 401}, {0, 201, 200, 401}, {0, 400, 1, 401}, {0, 300, 101, 500}} {
		wantNotAdded(t, storeOf(texts[c.from:c.to]...), storeOf(texts[c.start:c.end]...))
	}
	for _, pairs := range pairSets() {
		nodes := trieNodes(t, pairs)
		wantAdded(t, nodes, nil, nodes)
		wantAdded(t, nodes, nodes, nodes)
	}
	for _, list := range wrongStores(t) {
		wantNotAdded(t, list, nil)
		wantNotAdded(t, list, list)
		wantNotAdded(t, list, storeOf(texts[:3]...))
	}
}

func TestStoreAddLeavesSpareRoom(t *testing.T) {
	a, b := storeOf(leafTexts(0, 6)...), storeOf(leafTexts(4, 6)...)
	keptA, keptB := slices.Clone(a), slices.Clone(b)
	for n := range 6 {
		if _, ok := impl.StoreAdd(a[:n], b[:n]); !ok {
			t.Error("StoreAdd refuses")
		}
		impl.StoreOk(a[:n])
		impl.Get(a[:n], hash(1), "a")
		impl.PairsAt(a[:n], a[0].Hash)
		if !slices.Equal(a, keptA) || !slices.Equal(b, keptB) {
			t.Fatal("written into spare room")
		}
	}
}

func wantGot(t *testing.T, list []impl.Stored, root, key string, code int64, value string) {
	t.Helper()
	if c, v := impl.Get(list, root, key); c != code || v != value {
		t.Errorf("Get of %d nodes, %x, %q: %d, %.40q; want %d, %.40q", len(list), root, key, c, v, code, value)
	}
}

// keysBeside: keys that stand near a key, and some that stand far.
func keysBeside(key string) []string {
	keys := []string{"", "a", "\x00", "\xff", "zzzzzzzzzzzz", key + "\x00", key + "a", key + "\xff", key + "\x10"}
	for i := range len(key) {
		for _, turn := range []byte{1, 0x10, 0x80} {
			keys = append(keys, key[:i]+string([]byte{key[i] ^ turn})+key[i+1:])
		}
		keys = append(keys, key[:i], key[i:])
	}
	return keys
}

// valueIn: what the pairs have of the key; "" when none.
func valueIn(list []impl.Pair, key string) string {
	for _, pair := range list {
		if pair.Key == key {
			return pair.Value
		}
	}
	return ""
}

func TestGetOfEveryKey(t *testing.T) {
	more := trieNodes(t, pairsOf("0", "x", "dig", "more", "do", "another"))
	for _, pairs := range pairSets() {
		root, nodes := trieRoot(t, pairs), trieNodes(t, pairs)
		both, ok := impl.StoreAdd(nodes, more)
		if !ok {
			t.Fatal("StoreAdd refuses")
		}
		keys := []string{"", "a"}
		for _, pair := range pairs {
			keys = append(append(keys, pair.Key), keysBeside(pair.Key)...)
		}
		if len(pairs) > 30 {
			keys = keys[:300] // the rest has the same shapes, and each Get looks at the whole store
		}
		for _, key := range keys {
			code, value := int64(impl.GtNone), valueIn(pairs, key)
			if value != "" {
				code = impl.GtFound
			}
			if len(key) > impl.MaxKey {
				code = impl.GtWrong
			}
			wantGot(t, nodes, root, key, code, value)
			wantGot(t, both, root, key, code, value)
		}
		for _, pair := range pairs {
			wantGot(t, nodes, root, pair.Key, impl.GtFound, pair.Value)
		}
	}
}

func TestGetWithANodeTakenOut(t *testing.T) {
	pairs := pairsOf("", "0", "do", "verb", "dog", "puppy", "doge", "coin", "horse", "stallion")
	root, nodes := trieRoot(t, pairs), trieNodes(t, pairs)
	lost := 0
	for i := range nodes {
		some := slices.Delete(slices.Clone(nodes), i, i+1)
		here := 0
		for _, pair := range pairs {
			code, value := impl.Get(some, root, pair.Key)
			if code == impl.GtLost && value == "" {
				here++
			} else if code != impl.GtFound || value != pair.Value {
				t.Errorf("Get of %q: %d, %q", pair.Key, code, value)
			}
		}
		if here == 0 || nodes[i].Hash == root && here != len(pairs) {
			t.Errorf("without node %d %d keys are lost", i, here)
		}
		lost += here
	}
	// Each key is lost as often as its way has nodes: 1, 4, 6, 7, 3.
	if lost != 21 {
		t.Errorf("%d keys are lost in all", lost)
	}
	wantGot(t, nil, root, "do", impl.GtLost, "")
	wantGot(t, nodes, hash(1), "do", impl.GtLost, "")
	// A key whose way ends ahead of what was taken out is not lost.
	for i, node := range nodes {
		if node.Hash != root {
			wantGot(t, slices.Delete(slices.Clone(nodes), i, i+1), root, "\xff", impl.GtNone, "")
		}
	}
}

func TestGetAtItsEdges(t *testing.T) {
	pairs := deepPairs()
	root, nodes := trieRoot(t, pairs), trieNodes(t, pairs)
	for _, key := range []string{"", "a", "0123456789ab", "\x00"} {
		wantGot(t, nil, impl.EmptyRoot(), key, impl.GtNone, "")
		wantGot(t, nodes, impl.EmptyRoot(), key, impl.GtNone, "")
		for _, wrong := range []string{"", "x", root[:31], root + "\x00", impl.EmptyRoot()[:31], impl.EmptyRoot() + "x"} {
			wantGot(t, nodes, wrong, key, impl.GtWrong, "")
			wantGot(t, nil, wrong, key, impl.GtWrong, "")
		}
	}
	for _, key := range []string{"0123456789abc", strings.Repeat("\x00", 13), letters(1000)} {
		wantGot(t, nodes, root, key, impl.GtWrong, "")
		wantGot(t, nil, impl.EmptyRoot(), key, impl.GtWrong, "")
		wantGot(t, nil, hash(1), key, impl.GtWrong, "")
	}
	for _, list := range wrongStores(t) {
		wantGot(t, list, trieRoot(t, pairsOf("do", "verb", "dog", "puppy")), "do", impl.GtWrong, "")
		wantGot(t, list, impl.EmptyRoot(), "do", impl.GtWrong, "")
	}
}

func TestGetFromTheMiddle(t *testing.T) {
	leaf := leafItem(t, "\x07", "puppy")
	branch := branchItem(t, map[int]string{6: leaf}, "verb")
	list := storeOf(leaf, branch)
	wantGot(t, list, librarySum(branch), "", impl.GtFound, "verb")
	wantGot(t, list, librarySum(branch), "g", impl.GtFound, "puppy")
	wantGot(t, list, librarySum(branch), "f", impl.GtNone, "")
	wantGot(t, list, librarySum(branch), "w", impl.GtNone, "")
	wantGot(t, list, librarySum(leaf), "", impl.GtNone, "")
	wantGot(t, list, librarySum(leaf), "g", impl.GtNone, "")

	// What no pairs make is gone through all the same.
	below := longItem(t, "\x07\x06\x01", branch)
	above := longItem(t, "\x06", below)
	list = storeOf(leaf, branch, below, above)
	wantGot(t, list, librarySum(above), "ga", impl.GtFound, "verb")
	wantGot(t, list, librarySum(above), "gag", impl.GtFound, "puppy")
	for _, key := range []string{"", "g", "a", "gb", "gaf", "gaw", "gagg"} {
		wantGot(t, list, librarySum(above), key, impl.GtNone, "")
	}
	wantNoPairs(t, "two long ones", list, librarySum(above))
	odd := branchItem(t, map[int]string{6: longItem(t, "\x04", branch), 7: longItem(t, "\x04\x06", branch)}, "")
	list = storeOf(leaf, branch, longItem(t, "\x04", branch), longItem(t, "\x04\x06", branch), odd)
	wantGot(t, list, librarySum(odd), "d", impl.GtFound, "verb")
	wantGot(t, list, librarySum(odd), "dg", impl.GtFound, "puppy")
	wantGot(t, list, librarySum(odd), "tg", impl.GtNone, "")
	wantGot(t, list, librarySum(odd), "tfp", impl.GtNone, "")
	wantGot(t, list, librarySum(odd), "t", impl.GtNone, "")
	wantGot(t, list, librarySum(odd), "", impl.GtNone, "")

	// The way of EmptyRoot ends at once, but only at its beginning.
	toEmpty := listOf(t, "\x16", impl.EmptyRoot())
	wantGot(t, storeOf(toEmpty), librarySum(toEmpty), "d", impl.GtLost, "")
	wantGot(t, storeOf(toEmpty), librarySum(toEmpty), "t", impl.GtNone, "")
}

// tower: n branches above each other, each with the one below as every kid, and a leaf with an empty path at the bottom.
func tower(t *testing.T, n int) ([]impl.Stored, string) {
	t.Helper()
	texts := []string{leafItem(t, "", "1")}
	for range n {
		below := map[int]string{}
		for nibble := range 16 {
			below[nibble] = texts[len(texts)-1]
		}
		texts = append(texts, branchItem(t, below, ""))
	}
	return storeOf(texts...), librarySum(texts[n])
}

func TestTowers(t *testing.T) {
	for n := range 26 {
		list, root := tower(t, n)
		for size := range impl.MaxKey + 1 {
			code, value := int64(impl.GtNone), ""
			if 2*size == n {
				code, value = impl.GtFound, "1"
			}
			wantGot(t, list, root, letters(size), code, value)
		}
		if n > 0 {
			wantNoPairs(t, "a tower", list, root)
		}
	}
	high, root := tower(t, 350)
	wantGot(t, high, root, letters(12), impl.GtNone, "")
	wantNoPairs(t, "a high tower", high, root)
}

func wantPairsAt(t *testing.T, list []impl.Stored, root string, want []impl.Pair) {
	t.Helper()
	kept := slices.Clone(list)
	pairs, ok := impl.PairsAt(list, root)
	if !ok || !slices.Equal(pairs, want) {
		t.Errorf("PairsAt of %d nodes, %x: %.60q, %v; want %.60q", len(list), root, pairs, ok, want)
	}
	if !slices.Equal(list, kept) {
		t.Error("PairsAt writes into its argument")
	}
}

func wantNoPairs(t *testing.T, why string, list []impl.Stored, root string) {
	t.Helper()
	if pairs, ok := impl.PairsAt(list, root); ok || len(pairs) != 0 {
		t.Errorf("PairsAt, %s: %d nodes, %x: %.60q, %v", why, len(list), root, pairs, ok)
	}
}

func TestPairsComeBack(t *testing.T) {
	more := storeOf(leafTexts(0, 200)...)
	lists := pairSets()
	source := rand.New(rand.NewSource(8))
	for range 60 {
		lists = append(lists, randomPairs(source))
	}
	for _, pairs := range lists {
		root, nodes := trieRoot(t, pairs), trieNodes(t, pairs)
		wantPairsAt(t, nodes, root, pairs)
		both, ok := impl.StoreAdd(nodes, more)
		if !ok {
			t.Fatal("StoreAdd refuses")
		}
		wantPairsAt(t, both, root, pairs)
		first, _ := impl.PairsAt(nodes, root)
		for i := range first {
			first[i] = impl.Pair{}
		}
		wantPairsAt(t, nodes, root, pairs)
		for i := range min(len(nodes), 30) {
			wantNoPairs(t, "a node taken out", slices.Delete(slices.Clone(nodes), i, i+1), root)
		}
	}
	for _, list := range [][]impl.Stored{nil, {}, more} {
		wantPairsAt(t, list, impl.EmptyRoot(), nil)
	}
}

func TestPairsOfTwoTriesInOneStore(t *testing.T) {
	old := pairsOf("do", "verb", "dog", "puppy", "horse", "stallion")
	turned := withPair(t, old, "dog", "hound")
	cut := withPair(t, turned, "do", "")
	var list []impl.Stored
	for _, pairs := range [][]impl.Pair{old, turned, cut} {
		sum, ok := impl.StoreAdd(list, trieNodes(t, pairs))
		if !ok {
			t.Fatal("StoreAdd refuses")
		}
		list = sum
	}
	for _, pairs := range [][]impl.Pair{old, turned, cut} {
		wantPairsAt(t, list, trieRoot(t, pairs), pairs)
	}
}

func TestNoPairsAt(t *testing.T) {
	leaf := leafItem(t, "\x07", "puppy")
	branch := branchItem(t, map[int]string{6: leaf}, "verb")
	long := longItem(t, "\x06\x04\x06\x0f", branch)
	list := storeOf(leaf, branch, long)
	wantPairsAt(t, list, librarySum(long), pairsOf("do", "verb", "dog", "puppy"))
	wantPairsAt(t, list, librarySum(branch), pairsOf("", "verb", "g", "puppy"))
	wantNoPairs(t, "half a byte", list, librarySum(leaf))
	for _, root := range []string{"", "x", hash(1), librarySum(long)[:31], librarySum(long) + "\x00", impl.EmptyRoot()[:31], impl.EmptyRoot() + "x"} {
		wantNoPairs(t, "no root", list, root)
		wantNoPairs(t, "no root", nil, root)
	}
	for i, wrong := range wrongStores(t) {
		wantNoPairs(t, "wrong store "+oneByte('a'+i), wrong, librarySum(long))
		wantNoPairs(t, "wrong store "+oneByte('a'+i)+" and EmptyRoot", wrong, impl.EmptyRoot())
	}
}

// Right nodes that lead to right pairs, but are not the trie of these.
func TestRootsThatNoPairsHave(t *testing.T) {
	leaf, beside := leafItem(t, "\x01", "1"), leafItem(t, "\x02", "2")
	branch := branchItem(t, map[int]string{6: leaf, 7: beside}, "")
	wantPairsAt(t, storeOf(leaf, beside, branch), librarySum(branch), pairsOf("a", "1", "r", "2"))
	for _, texts := range [][]string{
		{longItem(t, "\x06", leaf), leaf},
		{longItem(t, "\x06\x01", leafItem(t, "", "1")), leafItem(t, "", "1")},
		{longItem(t, "\x06", longItem(t, "\x01", branch)), longItem(t, "\x01", branch), branch, leaf, beside},
		{branchItem(t, map[int]string{6: leaf, 7: longItem(t, "\x02", leafItem(t, "", "2"))}, ""), leaf, longItem(t, "\x02", leafItem(t, "", "2")), leafItem(t, "", "2")},
	} {
		wantNoPairs(t, "nodes that are no trie", storeOf(texts...), librarySum(texts[0]))
	}
	half := branchItem(t, map[int]string{6: leaf, 7: leafItem(t, "", "2")}, "")
	wantNoPairs(t, "half a byte below", storeOf(half, leaf, leafItem(t, "", "2")), librarySum(half))
	halfAbove := longItem(t, "\x06", branchItem(t, map[int]string{6: leaf}, "1"))
	wantNoPairs(t, "half a byte in a branch", storeOf(halfAbove, branchItem(t, map[int]string{6: leaf}, "1"), leaf), librarySum(halfAbove))
}

func TestPairsAtItsLimits(t *testing.T) {
	// A key of 12 bytes, and one of 13, with the same branch below.
	end := branchItem(t, map[int]string{1: leafItem(t, "", "1"), 2: leafItem(t, "", "2")}, "")
	texts := []string{end, leafItem(t, "", "1"), leafItem(t, "", "2")}
	far := longItem(t, strings.Repeat("\x06", 23), end)
	wantPairsAt(t, storeOf(append(texts, far)...), librarySum(far), pairsOf(strings.Repeat("f", 11)+"a", "1", strings.Repeat("f", 11)+"b", "2"))
	middle := branchItem(t, map[int]string{0: longItem(t, strings.Repeat("\x06", 23), end)}, "0")
	wantNoPairs(t, "25 nibbles", storeOf(append(texts, far, middle)...), librarySum(middle))
	farther := longItem(t, strings.Repeat("\x06", 24), middle)
	wantNoPairs(t, "49 nibbles", storeOf(append(texts, far, middle, farther)...), librarySum(farther))

	// 60 and 61 pairs, put together out of branches of 16 and fewer.
	for _, c := range []struct {
		last int
		ok   bool
	}{{12, true}, {13, false}} {
		var pairs []impl.Pair
		texts := []string{}
		below := map[int]string{}
		for high := range 4 {
			ends := map[int]string{}
			for low := range 16 {
				if high < 3 || low < c.last {
					pair := impl.Pair{Key: oneByte(high*16 + low), Value: "v"}
					pairs = append(pairs, pair)
					ends[low] = leafItem(t, "", "v")
				}
			}
			below[high] = branchItem(t, ends, "")
			texts = append(texts, below[high], leafItem(t, "", "v"))
		}
		top := branchItem(t, below, "")
		list := storeOf(append(texts, top)...)
		if c.ok {
			wantPairsAt(t, list, librarySum(top), pairs)
		} else {
			wantNoPairs(t, "61 pairs", list, librarySum(top))
		}
	}
}
