package tests

import (
	"math/rand"
	"slices"
	"sort"
	"strings"
	"testing"

	"loop.example/g00226/impl"
)

// pairsOf: keys and values by turns.
func pairsOf(texts ...string) []impl.Pair {
	var list []impl.Pair
	for i := 0; i < len(texts); i += 2 {
		list = append(list, impl.Pair{Key: texts[i], Value: texts[i+1]})
	}
	return list
}

// somePairs: n right pairs whose keys are one byte, or two where they have to be.
func somePairs(n int) []impl.Pair {
	var list []impl.Pair
	for i := range n {
		list = append(list, impl.Pair{Key: string([]byte{byte(i * 4), byte(i)})[:1+i%2], Value: "v" + oneByte(i)})
	}
	return list
}

// deepPairs: keys of 0 .. 12 bytes, each the beginning of the next one.
func deepPairs() []impl.Pair {
	var list []impl.Pair
	for i := range impl.MaxKey + 1 {
		list = append(list, impl.Pair{Key: strings.Repeat("\x00", i), Value: strings.Repeat("z", i+1)})
	}
	return list
}

// numberPairs: the numbers below n as keys, in the order of keys.
func numberPairs(n int) []impl.Pair {
	var list []impl.Pair
	for i := range n {
		key := string([]byte{byte('0' + i/10), byte('0' + i%10)})
		key = strings.TrimPrefix(key, "0")
		if key == "" {
			key = "0"
		}
		list = append(list, impl.Pair{Key: key, Value: "v" + key})
	}
	sortPairs(list)
	return list
}

func sortPairs(list []impl.Pair) {
	sort.Slice(list, func(i, j int) bool { return list[i].Key < list[j].Key })
}

// pairSets: right pairs of every shape that a trie can take.
func pairSets() [][]impl.Pair {
	return [][]impl.Pair{
		nil,
		pairsOf("", "1"),
		pairsOf("a", "1"),
		pairsOf("do", "verb", "dog", "puppy"),
		pairsOf("do", "verb", "dog", "puppy", "doge", "coin", "horse", "stallion"),
		pairsOf("", "root", "a", "1", "b", "2"),
		pairsOf("\x00", "1", "\x10", "2", "\xff", "3"),
		pairsOf("abcdefghijkl", strings.Repeat("x", 60), "abcdefghijkm", "y"),
		pairsOf("", "v", "\x00", "w", "\x00\x00", "x"),
		pairsOf("a1", "same", "b1", "same", "c2", "same"),
		pairsOf("\x12", "1", "\x13", "2", "\x22", "1", "\x23", "2"),
		pairsOf("", "1", "\xff\xff\xff\xff\xff\xff\xff\xff\xff\xff\xff\xff", "2"),
		numberPairs(60),
		deepPairs(),
		somePairs(60),
	}
}

// wrongPairs: not right, one way or another.
func wrongPairs() [][]impl.Pair {
	return [][]impl.Pair{
		numberPairs(61),
		append(numberPairs(60), numberPairs(60)...),
		pairsOf("a", ""),
		pairsOf("", ""),
		pairsOf("a", "1", "b", ""),
		pairsOf("a", strings.Repeat("x", 61)),
		pairsOf("0123456789abc", "1"),
		pairsOf("a", "1", strings.Repeat("b", 13), "1"),
		pairsOf("a", "1", "a", "1"),
		pairsOf("a", "1", "a", "2"),
		pairsOf("", "1", "", "1"),
		pairsOf("b", "1", "a", "1"),
		pairsOf("a", "1", "", "1"),
		pairsOf("ab", "1", "a", "1"),
		pairsOf("a", "1", "b", "2", "a\xff", "3"),
		pairsOf("\x80", "1", "\x7f", "2"),
	}
}

func trieRoot(t *testing.T, list []impl.Pair) string {
	t.Helper()
	root, ok := impl.RootOf(list)
	if !ok || len(root) != 32 {
		t.Fatalf("RootOf of %q: %x, %v", list, root, ok)
	}
	return root
}

func trieNodes(t *testing.T, list []impl.Pair) []impl.Stored {
	t.Helper()
	nodes, ok := impl.NodesOf(list)
	if !ok {
		t.Fatalf("NodesOf of %q refuses", list)
	}
	return nodes
}

func withPair(t *testing.T, list []impl.Pair, key, value string) []impl.Pair {
	t.Helper()
	out, ok := impl.SetPair(list, key, value)
	if !ok {
		t.Fatalf("SetPair of %q, %q refuses", key, value)
	}
	return out
}

// plainPath: the text of a path, written out from the words of the codec.
func plainPath(path []byte, leaf bool) string {
	flag := byte(0)
	if leaf {
		flag = 2
	}
	all := append([]byte{flag, 0}, path...)
	if len(path)%2 == 1 {
		all = append([]byte{flag + 1}, path...)
	}
	out := ""
	for i := 0; i < len(all); i += 2 {
		out += oneByte(int(all[i])*16 + int(all[i+1]))
	}
	return out
}

func leafItem(t *testing.T, path, value string) string {
	t.Helper()
	return listOf(t, plainPath([]byte(path), true), value)
}

func longItem(t *testing.T, path, below string) string {
	t.Helper()
	return listOf(t, plainPath([]byte(path), false), librarySum(below))
}

// branchItem: below has the texts of the kids.
func branchItem(t *testing.T, below map[int]string, value string) string {
	t.Helper()
	texts := make([]string, 17)
	for nibble, text := range below {
		texts[nibble] = librarySum(text)
	}
	texts[16] = value
	return listOf(t, texts...)
}

// plainTrie goes by the document's words for pairs in whatever order, and keeps each node in nodes.
func plainTrie(t *testing.T, list []impl.Pair, nodes map[string]string) string {
	t.Helper()
	var made func(paths map[string]string) string
	made = func(paths map[string]string) string {
		text := ""
		common := commonPath(paths)
		switch {
		case len(paths) == 1:
			for path, value := range paths {
				text = leafItem(t, path, value)
			}
		case common != "":
			text = longItem(t, common, made(withoutAhead(paths, common)))
		default:
			below := map[int]string{}
			for nibble := range 16 {
				if some := withoutAhead(paths, oneByte(nibble)); len(some) > 0 {
					below[nibble] = made(some)
				}
			}
			text = branchItem(t, below, paths[""])
		}
		nodes[librarySum(text)] = text
		return text
	}
	if len(list) == 0 {
		return librarySum("\x80")
	}
	paths := map[string]string{}
	for _, pair := range list {
		path := ""
		for _, b := range []byte(pair.Key) {
			path += oneByte(int(b/16)) + oneByte(int(b%16))
		}
		paths[path] = pair.Value
	}
	return librarySum(made(paths))
}

func commonPath(paths map[string]string) string {
	common, first := "", true
	for path := range paths {
		if first {
			common, first = path, false
		}
		for !strings.HasPrefix(path, common) {
			common = common[:len(common)-1]
		}
	}
	return common
}

// withoutAhead: those that begin with ahead, without it.
func withoutAhead(paths map[string]string, ahead string) map[string]string {
	out := map[string]string{}
	for path, value := range paths {
		if strings.HasPrefix(path, ahead) {
			out[path[len(ahead):]] = value
		}
	}
	return out
}

func randomPairs(source *rand.Rand) []impl.Pair {
	alphabet := []string{"\x00\x01\x10\x11", "ab", "\x00\xff\x0f\xf0", "abcdefghijklmnop\x00\x80\xff"}[source.Intn(4)]
	seen := map[string]bool{}
	var list []impl.Pair
	for range source.Intn(impl.MaxPairs + 1) {
		key := make([]byte, source.Intn(source.Intn(impl.MaxKey+1)+1))
		for i := range key {
			key[i] = alphabet[source.Intn(len(alphabet))]
		}
		if !seen[string(key)] {
			seen[string(key)] = true
			list = append(list, impl.Pair{Key: string(key), Value: letters(1 + source.Intn(1+source.Intn(60)))})
		}
	}
	sortPairs(list)
	return list
}

func TestPairsThatAreRight(t *testing.T) {
	for _, list := range append(pairSets(),
		[]impl.Pair{},
		numberPairs(59),
		pairsOf("0123456789ab", "1"),
		pairsOf("", strings.Repeat("x", 60)),
		pairsOf("a", "\x00", "a\x00", "\x00"),
		pairsOf("\x7f", "1", "\x80", "2"),
		pairsOf("aaaaaaaaaaaa", "1", "b", "2"),
	) {
		if !impl.PairsOk(list) {
			t.Errorf("PairsOk of %d pairs %.40q", len(list), list)
		}
	}
	for _, list := range wrongPairs() {
		if impl.PairsOk(list) {
			t.Errorf("PairsOk of %d pairs %.40q", len(list), list)
		}
		if root, ok := impl.RootOf(list); ok || root != "" {
			t.Errorf("RootOf of %d pairs %.40q: %x, %v", len(list), list, root, ok)
		}
		if nodes, ok := impl.NodesOf(list); ok || len(nodes) != 0 {
			t.Errorf("NodesOf of %d pairs %.40q: %d, %v", len(list), list, len(nodes), ok)
		}
	}
}

func TestEmptyRoot(t *testing.T) {
	if root := impl.EmptyRoot(); root != librarySum("\x80") {
		t.Errorf("EmptyRoot: %x", root)
	}
	for _, list := range [][]impl.Pair{nil, {}} {
		if root := trieRoot(t, list); root != impl.EmptyRoot() {
			t.Errorf("RootOf of no pairs: %x", root)
		}
		if nodes := trieNodes(t, list); len(nodes) != 0 {
			t.Errorf("NodesOf of no pairs: %x", nodes)
		}
	}
}

// The digests were worked out apart from the program.
func TestKnownRoots(t *testing.T) {
	for _, c := range []struct {
		list  []impl.Pair
		root  string
		count int
		all   string
	}{
		{nil, "76be8b528d0075f7aae98d6fa57a6d3c83ae480a8469e668d7b0af968995ac71", 0, "e3b0c44298fc1c149afbf4c8996fb92427ae41e4649b934ca495991b7852b855"},
		{pairsOf("", "1"), "40c564af46c4b2f4814a4fdd6979f779487bc4fc0f9fcde304b0de38cf4c795b", 1, "75ca1fd3cff050bb72cfe2b1c06cc829f04738a3e8c1b19edd297c6c3a6ceac3"},
		{pairsOf("a", "1"), "92306af84c4f88a8b85fbc9ed3afa02aa18e4d01e62484691e1dd7d63ba20b8b", 1, "d5a38a3731c3444e1133b44407173e7f2bfe5105ecad271eee6fc47c70778d57"},
		{pairsOf("do", "verb", "dog", "puppy"), "b804ed1ea4c7b8b2de8c4355823111cb1a2ee4b32bf5a4ca6ab534efea623963", 3, "0e64b5912e157b95a299a2d4a59bb9a56221f55619cfa348e9e844c56520604a"},
		{pairsOf("do", "verb", "dog", "puppy", "doge", "coin", "horse", "stallion"), "116e164525ef2fa7d4da69dc9300748b2082c52a4f9c57c77b03ce992642a63c", 8, "eac862b8476bee292c921eff10465e8b38782cf8576ba810a1353be8c2e8143d"},
		{pairsOf("", "root", "a", "1", "b", "2"), "549a263c3629a414ec5e6cdfa67f88e11e4b477d3db2f4029044ce3e03391a91", 4, "fee2152bf20bdaf85b743031320c0ae1ad38a8c7bd1c69665bcd5cadccfc1239"},
		{pairsOf("\x00", "1", "\x10", "2", "\xff", "3"), "cbb0a9bb3adde1cd8f97e329a7da76d50a70ba1cbc0bc418a75b571c4c091db1", 4, "be2f76ee1d83ab869e8a7675bff17da071a1fb652ef6b1031e76ed742756d9af"},
		{pairsOf("abcdefghijkl", strings.Repeat("x", 60), "abcdefghijkm", "y"), "2323fbf4fa3f584922c9d9649f30366d47b96656c13f933bde60a8451b2a66c0", 4, "2b8038a989b260d98b89b2cd0659ebca5b2438179faa8f89736beed242d0d96f"},
		{pairsOf("", "v", "\x00", "w", "\x00\x00", "x"), "6dd1e2f57ef6d11500e4d8f617e535a633c9d8c43e4b3e719cf7a2b13fc5a564", 4, "88c04e3aad62bca0c66e8cd333d3eb422295aba018f680acdfc5479917364311"},
		{pairsOf("a1", "same", "b1", "same", "c2", "same"), "f6b44b249e891738e2e8b121e16c27d9e2fdc68c589c8bfa9db3c8fe79f1f959", 4, "a77d46065445a2e556cc6d5189c8ba5ab1b290a543145632d81af57e47d79b8f"},
		{numberPairs(60), "004754bd1e2786d761bff5dbf9a73dd04a538b4818b09334dc0a5d5f7d24db0a", 67, "c5947882da901a11b6132be96b702e876feb227b4922c752a74a358af22950b4"},
		{deepPairs(), "e0f32cdbc88c7f7f965f4361c3ad6bf76b56dbf7bf551810347f23d72aea636a", 24, "5861aa11d0fcc100368097100bae68af86f5ecafc049b8c09d6622f35aa42c39"},
	} {
		if root := trieRoot(t, c.list); impl.Hex(root) != c.root {
			t.Errorf("RootOf of %d pairs %.40q: %x", len(c.list), c.list, root)
		}
		nodes, all := trieNodes(t, c.list), ""
		for _, node := range nodes {
			all += node.Hash + node.Text
		}
		if len(nodes) != c.count || impl.Hex(librarySum(all)) != c.all {
			t.Errorf("NodesOf of %d pairs %.40q: %d nodes, %x", len(c.list), c.list, len(nodes), librarySum(all))
		}
	}
}

// wantTrie: of this root, and of just these nodes' texts.
func wantTrie(t *testing.T, list []impl.Pair, top string, others ...string) {
	t.Helper()
	if root := trieRoot(t, list); root != librarySum(top) {
		t.Errorf("RootOf of %q: %x", list, root)
	}
	want := append([]string{top}, others...)
	var got []string
	for _, node := range trieNodes(t, list) {
		got = append(got, node.Text)
	}
	sort.Strings(want)
	sort.Strings(got)
	if !slices.Equal(got, want) {
		t.Errorf("NodesOf of %q: %q; want %q", list, got, want)
	}
}

func TestRootsNodeByNode(t *testing.T) {
	wantTrie(t, pairsOf("a", "1"), "\xc4\x82\x20\x611")
	wantTrie(t, pairsOf("a", "b"), "\xc4\x82\x20ab")
	wantTrie(t, pairsOf("", "1"), "\xc2\x201")
	wantTrie(t, pairsOf("", "\x80"), "\xc3\x20\x81\x80")
	wantTrie(t, pairsOf("abcdefghijkl", letters(60)), "\xf8\x4c\x8d\x20abcdefghijkl\xb8\x3c"+letters(60))

	dog := "\xc7\x37\x85puppy"
	do := branchItem(t, map[int]string{6: dog}, "verb")
	wantTrie(t, pairsOf("do", "verb", "dog", "puppy"), longItem(t, "\x06\x04\x06\x0f", do), do, dog)

	beside := branchItem(t, map[int]string{1: leafItem(t, "", "1"), 2: leafItem(t, "", "2")}, "")
	wantTrie(t, pairsOf("a", "1", "b", "2"), longItem(t, "\x06", beside), beside, "\xc2\x201", "\xc2\x202")

	none := map[int]string{0: leafItem(t, "\x00", "1"), 8: leafItem(t, "\x01\x07\x0a", "2"), 15: leafItem(t, "\x0f", "3")}
	wantTrie(t, pairsOf("\x00", "1", "\x81\x7a", "2", "\xff", "3"), branchItem(t, none, ""), none[0], none[8], none[15])

	low, high := leafItem(t, "", letters(60)), leafItem(t, "", "y")
	ends := branchItem(t, map[int]string{12: low, 13: high}, "")
	far := longItem(t, strings.Repeat("\x06\x01", 11)+"\x06", ends)
	wantTrie(t, pairsOf(strings.Repeat("a", 11)+"l", letters(60), strings.Repeat("a", 11)+"m", "y"), far, ends, low, high)

	top := map[int]string{6: longItem(t, "\x01", branchItem(t, map[int]string{0: leafItem(t, "\x00", "2")}, "1"))}
	wantTrie(t, pairsOf("", "0", "a", "1", "a\x00", "2"), branchItem(t, top, "0"), top[6], branchItem(t, map[int]string{0: leafItem(t, "\x00", "2")}, "1"), leafItem(t, "\x00", "2"))

	one := leafItem(t, "\x01", "1")
	wantTrie(t, pairsOf("", "0", "\x01", "1"), branchItem(t, map[int]string{0: one}, "0"), one)

	same := leafItem(t, "\x02", "s")
	wantTrie(t, pairsOf("\x02", "s", "\x12", "s", "\xf2", "s"), branchItem(t, map[int]string{0: same, 1: same, 15: same}, ""), same)
}

func TestRootsByTheWords(t *testing.T) {
	lists := pairSets()
	source := rand.New(rand.NewSource(5))
	for range 300 {
		lists = append(lists, randomPairs(source))
	}
	for _, list := range lists {
		nodes := map[string]string{}
		if root := trieRoot(t, list); root != plainTrie(t, list, nodes) {
			t.Errorf("RootOf of %q: %x", list, root)
		}
		got := trieNodes(t, list)
		if len(got) != len(nodes) {
			t.Errorf("NodesOf of %q: %d nodes, want %d", list, len(got), len(nodes))
		}
		for _, node := range got {
			if node.Text != nodes[node.Hash] {
				t.Errorf("NodesOf of %q: %x, %q", list, node.Hash, node.Text)
			}
		}
	}
}

func TestNodesRise(t *testing.T) {
	for _, list := range pairSets() {
		nodes := trieNodes(t, list)
		for i, node := range nodes {
			if i > 0 && nodes[i-1].Hash >= node.Hash {
				t.Errorf("NodesOf of %.40q: %x, then %x", list, nodes[i-1].Hash, node.Hash)
			}
			if node.Hash != librarySum(node.Text) {
				t.Errorf("NodesOf of %.40q: %x of %q", list, node.Hash, node.Text)
			}
		}
	}
}

func TestOneRootInWhateverOrder(t *testing.T) {
	source := rand.New(rand.NewSource(6))
	for _, list := range pairSets() {
		root := trieRoot(t, list)
		for range 8 {
			var made []impl.Pair
			for i, place := range source.Perm(len(list)) {
				pair := list[place]
				if i%2 == 0 && len(made) < impl.MaxPairs {
					made = withPair(t, made, pair.Key, "another one")
				}
				made = withPair(t, made, pair.Key, pair.Value)
			}
			if !slices.Equal(made, list) || trieRoot(t, made) != root {
				t.Errorf("%.40q, put in another order: %.40q", list, made)
			}
			for _, place := range source.Perm(len(list)) {
				made = withPair(t, made, list[place].Key, "")
			}
			if len(made) != 0 || trieRoot(t, made) != impl.EmptyRoot() {
				t.Errorf("%.40q, all cut: %.40q", list, made)
			}
		}
	}
}

func TestUnlikePairsHaveUnlikeRoots(t *testing.T) {
	seen := map[string][]impl.Pair{}
	want := func(list []impl.Pair) {
		root := trieRoot(t, list)
		if other, ok := seen[root]; ok && !slices.Equal(other, list) {
			t.Errorf("one root of %.60q and %.60q", list, other)
		}
		seen[root] = list
	}
	for _, list := range pairSets() {
		want(list)
		for i, pair := range list {
			want(slices.Delete(slices.Clone(list), i, i+1))
			for _, value := range []string{"another one", pair.Value[:len(pair.Value)-1] + "\xff", "\x00" + pair.Value[1:]} {
				want(withPair(t, list, pair.Key, value))
			}
			if len(pair.Key) < impl.MaxKey && len(list) < impl.MaxPairs {
				want(withPair(t, list, pair.Key+"\x00", pair.Value))
				want(withPair(t, withPair(t, list, pair.Key, ""), pair.Key+"\x07", pair.Value))
			}
		}
	}
	for _, pair := range []string{"", "a", "b", "aa", "a\x00", "\x00", "\x00\x00", "\x06\x01", "A"} {
		want(pairsOf(pair, "1"))
		want(pairsOf(pair, "11"))
	}
}

// wantSet: these pairs, and the argument as it was.
func wantSet(t *testing.T, list []impl.Pair, key, value string, want []impl.Pair) {
	t.Helper()
	kept := slices.Clone(list)
	out, ok := impl.SetPair(list, key, value)
	if !ok || !slices.Equal(out, want) {
		t.Errorf("SetPair of %.40q, %q, %.40q: %.40q, %v", list, key, value, out, ok)
	}
	if !slices.Equal(list, kept) {
		t.Errorf("SetPair of %q, %q writes into its argument", key, value)
	}
}

func wantUnset(t *testing.T, list []impl.Pair, key, value string) {
	t.Helper()
	if out, ok := impl.SetPair(list, key, value); ok || len(out) != 0 {
		t.Errorf("SetPair of %d pairs %.40q, %q, %.40q: %.40q, %v", len(list), list, key, value, out, ok)
	}
}

func TestSetPair(t *testing.T) {
	list := pairsOf("b", "1", "d", "2", "f", "3")
	wantSet(t, list, "a", "x", pairsOf("a", "x", "b", "1", "d", "2", "f", "3"))
	wantSet(t, list, "", "x", pairsOf("", "x", "b", "1", "d", "2", "f", "3"))
	wantSet(t, list, "c", "x", pairsOf("b", "1", "c", "x", "d", "2", "f", "3"))
	wantSet(t, list, "d\x00", "x", pairsOf("b", "1", "d", "2", "d\x00", "x", "f", "3"))
	wantSet(t, list, "g", "x", pairsOf("b", "1", "d", "2", "f", "3", "g", "x"))
	wantSet(t, list, "\xff", "x", pairsOf("b", "1", "d", "2", "f", "3", "\xff", "x"))
	wantSet(t, list, "b", "x", pairsOf("b", "x", "d", "2", "f", "3"))
	wantSet(t, list, "d", "x", pairsOf("b", "1", "d", "x", "f", "3"))
	wantSet(t, list, "f", "x", pairsOf("b", "1", "d", "2", "f", "x"))
	wantSet(t, list, "f", "3", list)
	wantSet(t, list, "b", "", pairsOf("d", "2", "f", "3"))
	wantSet(t, list, "d", "", pairsOf("b", "1", "f", "3"))
	wantSet(t, list, "f", "", pairsOf("b", "1", "d", "2"))
	wantSet(t, pairsOf("", "1", "a", "2"), "", "", pairsOf("a", "2"))
	wantSet(t, pairsOf("a", "2"), "a", "", nil)
	for _, key := range []string{"", "a", "c", "b\x00", "g", "0123456789abc", strings.Repeat("b", 1000)} {
		wantSet(t, list, key, "", list)
		wantSet(t, nil, key, "", nil)
	}
	wantSet(t, nil, "", "x", pairsOf("", "x"))
	wantSet(t, nil, "0123456789ab", strings.Repeat("x", 60), pairsOf("0123456789ab", strings.Repeat("x", 60)))
	wantUnset(t, nil, "0123456789abc", "x")
	wantUnset(t, nil, "a", strings.Repeat("x", 61))
	wantUnset(t, list, "0123456789abc", "x")
	wantUnset(t, list, "d", strings.Repeat("x", 61))
}

func TestSetPairAtItsLimits(t *testing.T) {
	full := numberPairs(60)
	wantSet(t, full[:59], full[59].Key, full[59].Value, full)
	wantSet(t, full, "0", "x", append(pairsOf("0", "x"), full[1:]...))
	wantSet(t, full, "0", "", full[1:])
	wantSet(t, full, "none", "", full)
	for _, key := range []string{"", "none", "5x"} {
		wantUnset(t, full, key, "x")
	}
	for _, list := range wrongPairs() {
		wantUnset(t, list, "a", "x")
		wantUnset(t, list, "a", "")
		wantUnset(t, list, "none", "")
		if len(list) > 0 {
			// What is wrong now is refused, though it would be right then.
			wantUnset(t, list, list[len(list)-1].Key, "x")
			wantUnset(t, list, list[len(list)-1].Key, "")
		}
	}
}

func TestTriesLeaveTheirArguments(t *testing.T) {
	room := pairsOf("b", "1", "d", "2", "f", "3", "spare", "", "spare", "")
	kept := slices.Clone(room)
	list := room[:3]
	for _, key := range []string{"a", "b", "c", "d", "e", "f", "g"} {
		for _, value := range []string{"x", ""} {
			out := withPair(t, list, key, value)
			for i := range out {
				out[i] = impl.Pair{Key: "written"}
			}
			out = append(out, impl.Pair{Key: "written"})
			if !slices.Equal(room, kept) {
				t.Fatalf("SetPair of %q, %q shares memory with its argument", key, value)
			}
		}
	}
	first := trieNodes(t, list)
	trieRoot(t, list)
	impl.PairsOk(list)
	impl.PairsOk(room)
	first[0] = impl.Stored{}
	if second := trieNodes(t, list); second[0] == first[0] || !slices.Equal(room, kept) {
		t.Error("NodesOf shares memory or writes into its argument")
	}
}
