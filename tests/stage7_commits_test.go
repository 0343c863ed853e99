package tests

import (
	"math"
	"slices"
	"strings"
	"testing"

	"loop.example/g01174/impl"
)

// someParents returns n keys that look random, in order.
func someParents(seed uint64, n int) []impl.Key {
	r := chance(seed)
	var keys []impl.Key
	for range n {
		keys = append(keys, someKey(r))
	}
	return ascending(keys...)
}

// rightCommits returns commits that are valid.
func rightCommits() []impl.Commit {
	root := impl.Key{1, 2, 3}
	commits := []impl.Commit{{}, {Root: root}}
	for n := range impl.MaxParents + 1 {
		for _, number := range []int64{0, 1, impl.MaxCommits - 1, impl.MaxCommits} {
			for _, note := range []string{"", "a", "\x00", "\xff\xfe\x80", "two\nlines", strings.Repeat("n", impl.MaxNote-1), strings.Repeat("\xc3", impl.MaxNote)} {
				commits = append(commits, impl.Commit{Root: root, Parents: someParents(711, n), Number: number, Note: note})
			}
		}
	}
	close := impl.Key{5}
	return append(commits,
		impl.Commit{Parents: []impl.Key{{}}},
		impl.Commit{Parents: []impl.Key{{}, flipped(impl.Key{}, 255)}},
		impl.Commit{Parents: []impl.Key{close, flipped(close, 255), flipped(close, 0)}},
		impl.Commit{Root: root, Parents: []impl.Key{root}, Note: strings.Repeat("é", impl.MaxNote/2)})
}

// wrongCommits returns commits that are not valid, each for one reason.
func wrongCommits() []impl.Commit {
	three, four := someParents(712, 3), someParents(712, 4)
	var commits []impl.Commit
	for _, parents := range [][]impl.Key{
		four, someParents(712, 200),
		{three[0], three[0]}, {three[1], three[0]}, {{}, {}}, {flipped(impl.Key{5}, 255), {5}}, {{5}, {4, 255}},
		{three[0], three[1], three[1]}, {three[0], three[0], three[1]}, {three[0], three[2], three[1]},
		{three[1], three[0], three[2]}, {three[2], three[1], three[0]}, {three[0], three[1], three[0]},
		{four[0], four[0], four[0], four[0]},
	} {
		commits = append(commits, impl.Commit{Parents: parents, Number: 3, Note: "a"})
	}
	for _, number := range []int64{-1, impl.MaxCommits + 1, 255, 256, 257, -256, math.MinInt64, math.MaxInt64} {
		commits = append(commits, impl.Commit{Parents: three, Number: number}, impl.Commit{Number: number, Note: "a"})
	}
	for _, n := range []int{impl.MaxNote + 1, 256, 256 + 5, 5000} {
		commits = append(commits, impl.Commit{Note: strings.Repeat("n", n)}, impl.Commit{Parents: three, Number: 1, Note: strings.Repeat("\x00", n)})
	}
	return append(commits, impl.Commit{Note: strings.Repeat("é", impl.MaxNote/2) + "n"})
}

func TestWhichCommitsAreValid(t *testing.T) {
	for i, c := range rightCommits() {
		same(t, numbered("right commit", i), impl.ValidCommit(c), true)
	}
	for i, c := range wrongCommits() {
		name := numbered("wrong commit", i)
		same(t, name, impl.ValidCommit(c), false)
		isNone[byte](t, name+": CommitData", impl.ErrInvalid)(impl.CommitData(c))
		isCode[impl.Key](t, name+": CommitKey", impl.ErrInvalid)(impl.CommitKey(c))
	}
}

func TestCommitsAreReadFromTheirData(t *testing.T) {
	for i, c := range rightCommits() {
		name := numbered("commit", i)
		isBytes(t, name, plainData(c))(impl.CommitData(c))
		isCommit(t, name, c)(impl.ReadCommit(plainData(c)))
		isNumber(t, name, plainCommitKey(c))(impl.CommitKey(c))
	}
}

func TestTheDataOfACommitAreAsTold(t *testing.T) {
	var root, one, two impl.Key
	root[0], one[31], two[0] = 7, 8, 9
	c := impl.Commit{Root: root, Parents: []impl.Key{one, two}, Number: 33, Note: "note"}
	want := make([]byte, 1+3*32)
	want[0], want[1], want[1+32+31], want[1+64] = 3, 7, 8, 9
	want = append(want, 33, 'n', 'o', 't', 'e')
	isBytes(t, "two parents", want)(impl.CommitData(c))
	isCommit(t, "two parents", c)(impl.ReadCommit(want))
	isBytes(t, "no parents", append([]byte{1}, make([]byte, 33)...))(impl.CommitData(impl.Commit{}))
	isNumber(t, "CommitKey", first(impl.HashOf(7, want)))(impl.CommitKey(c))
}

// TestCommitsAreBlobs shows that stores know the root and the parents of a commit as its links.
func TestCommitsAreBlobs(t *testing.T) {
	for i, c := range rightCommits() {
		b := impl.Blob{Tag: 7, Data: plainData(c)}
		isKeys(t, numbered("links of the commit", i), append([]impl.Key{c.Root}, c.Parents...))(impl.LinksOf(b))
		isNumber(t, numbered("key of the commit", i), first(impl.BlobKey(b)))(impl.CommitKey(c))
	}
}

// checkCommitRead checks what ReadCommit tells of some data: what is read has them as its data.
func checkCommitRead(t *testing.T, name string, data []byte) {
	t.Helper()
	c, found := plainCommitOf(data)
	if !found {
		isNoCommit(t, name, impl.ErrSyntax)(impl.ReadCommit(data))
		return
	}
	isCommit(t, name, c)(impl.ReadCommit(data))
	isBytes(t, name+": again", data)(impl.CommitData(c))
}

func TestDataOfCommitsThatAreCutOff(t *testing.T) {
	for i, c := range rightCommits() {
		data := plainData(c)
		for n := range len(data) {
			checkCommitRead(t, numbered("cut off", i, n), data[:n])
		}
		short := 2 + 32*(1+len(c.Parents)) // with all but the note
		isNoCommit(t, numbered("without Number", i), impl.ErrSyntax)(impl.ReadCommit(data[:short-1]))
		c.Note = ""
		isCommit(t, numbered("without the note", i), c)(impl.ReadCommit(data[:short]))
	}
}

func TestDataOfCommitsWithOtherFirstBytes(t *testing.T) {
	for i, c := range rightCommits() {
		for n := range 256 {
			name := numbered("first byte", i, n)
			data := setAt(plainData(c), 0, byte(n))
			checkCommitRead(t, name, data)
			long := append(data, make([]byte, 256*32)...)
			isNoCommit(t, name+", and much behind it", impl.ErrSyntax)(impl.ReadCommit(long))
		}
	}
	for n := range 256 { // all keys are there, and a Number, but only up to MaxParents may be parents
		data := append([]byte{byte(n)}, keyBytes(someParents(713, n)...)...)
		checkCommitRead(t, numbered("enough keys", n), append(data, 0))
		if n < 1 || n > impl.MaxParents+1 {
			isNoCommit(t, numbered("enough keys", n), impl.ErrSyntax)(impl.ReadCommit(append(data, 0)))
		}
	}
}

func TestDataOfCommitsThatAreNone(t *testing.T) {
	for i, c := range wrongCommits() {
		if len(c.Parents) < 255 && c.Number >= 0 && c.Number < 256 {
			isNoCommit(t, numbered("wrong commit", i), impl.ErrSyntax)(impl.ReadCommit(plainData(c)))
		}
	}
	right := impl.Commit{Parents: someParents(714, 2), Note: "note"}
	at := 1 + 3*32
	for n := range 256 {
		data := setAt(plainData(right), at, byte(n))
		right.Number = int64(n)
		if n <= impl.MaxCommits {
			isCommit(t, numbered("Number", n), right)(impl.ReadCommit(data))
		} else {
			isNoCommit(t, numbered("Number", n), impl.ErrSyntax)(impl.ReadCommit(data))
		}
	}
	for _, c := range rightCommits() {
		c.Note = strings.Repeat("n", impl.MaxNote)
		isCommit(t, "the longest note", c)(impl.ReadCommit(plainData(c)))
		for _, more := range []int{1, 2, 200, 256, 4096, 100000} {
			isNoCommit(t, numbered("bytes behind the longest note", more), impl.ErrSyntax)(impl.ReadCommit(append(plainData(c), make([]byte, more)...)))
		}
	}
}

func TestDataOfCommitsThatAreChanged(t *testing.T) {
	r := chance(715)
	for i, c := range rightCommits() {
		for range 60 {
			checkCommitRead(t, numbered("edited", i), editedBytes(r, plainData(c)))
		}
	}
	for n := range 300 {
		checkCommitRead(t, numbered("zeros", n), make([]byte, n))
		checkCommitRead(t, numbered("ones", n), slices.Repeat([]byte{1}, n))
		checkCommitRead(t, numbered("anything", n), someBytes(r, n))
	}
}

func TestUnlikeCommitsHaveUnlikeData(t *testing.T) {
	seen := map[string]int{}
	for i, c := range rightCommits() {
		if other, found := seen[string(plainData(c))]; found && !equalCommits(c, rightCommits()[other]) {
			t.Errorf("the commits %d and %d have the same data", i, other)
		}
		seen[string(plainData(c))] = i
	}
}

func TestWhichCommitsAreTheSame(t *testing.T) {
	all := append(rightCommits(), wrongCommits()...)
	for i, c := range all {
		for k, d := range all {
			same(t, numbered("SameCommit", i, k), impl.SameCommit(c, d), equalCommits(c, d))
		}
	}
	c := impl.Commit{Root: impl.Key{1}, Parents: someParents(716, 2), Number: 5, Note: "a"}
	other := c
	other.Parents = slices.Clone(c.Parents)
	same(t, "a copy", impl.SameCommit(c, other), true)
	same(t, "nil and no parents", impl.SameCommit(impl.Commit{}, impl.Commit{Parents: []impl.Key{}}), true)
	for i, edit := range []func(*impl.Commit){
		func(c *impl.Commit) { c.Root = flipped(c.Root, 255) },
		func(c *impl.Commit) { c.Parents = c.Parents[:1] },
		func(c *impl.Commit) { c.Parents = with(c.Parents, 2, impl.Key{}) },
		func(c *impl.Commit) { c.Parents = []impl.Key{c.Parents[1], c.Parents[0]} },
		func(c *impl.Commit) { c.Parents = []impl.Key{c.Parents[0], flipped(c.Parents[1], 0)} },
		func(c *impl.Commit) { c.Number = 5 + 256 },
		func(c *impl.Commit) { c.Note = "b" },
		func(c *impl.Commit) { c.Note = "a\x00" },
		func(c *impl.Commit) { c.Note = "" },
	} {
		edited := other
		edit(&edited)
		same(t, numbered("another one", i), impl.SameCommit(c, edited), false)
		same(t, numbered("another one first", i), impl.SameCommit(edited, c), false)
	}
}
