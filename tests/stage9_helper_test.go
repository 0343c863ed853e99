package tests

import (
	"maps"
	"slices"
	"strconv"
	"strings"
	"testing"

	"loop.example/g01174/impl"
)

// plainReplica is a replica as the document tells it, with the keys of its commits. What it has is not written into, so
// that a replica may be kept as it is.
type plainReplica struct {
	book impl.Book
	keys []impl.Key
	head impl.Key
}

// plainGroup is a group as the document tells it, with the edits of its setup, and the ancestors of all commits.
type plainGroup struct {
	edits    []impl.Edit
	replicas []plainReplica
	saved    []plainReplica
	wire     []impl.Parcel
	up       map[impl.Key]map[impl.Key]bool
}

// begin returns the group of a setup in the beginning.
func begin(v impl.Setup) *plainGroup {
	n := v.Replicas
	return &plainGroup{edits: v.Edits, replicas: make([]plainReplica, n), saved: make([]plainReplica, n), up: map[impl.Key]map[impl.Key]bool{}}
}

// clone returns a group that is the same as g, but goes its own way.
func (g *plainGroup) clone() *plainGroup {
	return &plainGroup{edits: g.edits, replicas: slices.Clone(g.replicas), saved: slices.Clone(g.saved), wire: slices.Clone(g.wire), up: g.up}
}

// group returns what GroupAfter should tell.
func (g *plainGroup) group() impl.Group {
	var own impl.Group
	for i, at := range g.replicas {
		own.Replicas = append(own.Replicas, impl.Replica{Book: at.book, Head: at.head})
		own.Saved = append(own.Saved, impl.Replica{Book: g.saved[i].book, Head: g.saved[i].head})
	}
	own.Wire = g.wire
	return own
}

// mapOfHead returns the map of the head of a replica.
func (at plainReplica) mapOfHead() []impl.Entry {
	if at.head == (impl.Key{}) {
		return nil
	}
	return at.book.Maps[slices.Index(at.keys, at.head)]
}

// parents returns the head of a replica, if it has one.
func (at plainReplica) parents() []impl.Key {
	if at.head == (impl.Key{}) {
		return nil
	}
	return []impl.Key{at.head}
}

// add adds a commit at the end of a book.
func (g *plainGroup) add(r int64, c impl.Commit, list []impl.Entry) {
	at := &g.replicas[r]
	k := plainCommitKey(c)
	at.keys = slices.Concat(at.keys, []impl.Key{k})
	at.book.Commits = slices.Concat(at.book.Commits, []impl.Commit{c})
	at.book.Maps = slices.Concat(at.book.Maps, [][]impl.Entry{list})
	up := map[impl.Key]bool{k: true}
	for _, p := range c.Parents {
		maps.Copy(up, g.up[p])
	}
	g.up[k] = up
}

// next returns the commit of a map with some parents.
func (at plainReplica) next(parents []impl.Key, list []impl.Entry, note string) impl.Commit {
	c := impl.Commit{Root: plainMapKey(list), Parents: ascending(parents...), Note: note}
	for _, p := range parents {
		c.Number = max(c.Number, at.book.Commits[slices.Index(at.keys, p)].Number+1)
	}
	return c
}

// has reports whether a replica exists.
func (g *plainGroup) has(r int64) bool {
	return r >= 0 && r < int64(len(g.replicas))
}

// do does a deed as the document tells it.
func (g *plainGroup) do(d impl.Deed) int64 {
	switch d.Kind {
	case impl.DdWrite:
		return g.write(d.A)
	case impl.DdSend:
		return g.send(d.A, d.B, d.C)
	case impl.DdDeliver, impl.DdCopy, impl.DdDrop:
		return g.take(d.A, d.Kind != impl.DdDrop, d.Kind != impl.DdCopy)
	case impl.DdMerge:
		return g.merge(d.A, d.B)
	}
	if !g.has(d.A) {
		return impl.ErrRange
	}
	if d.Kind == impl.DdSave {
		g.saved[d.A] = g.replicas[d.A]
	} else {
		g.replicas[d.A] = g.saved[d.A]
	}
	return impl.OK
}

func (g *plainGroup) write(a int64) int64 {
	if a >= int64(len(g.edits)) {
		return impl.ErrRange
	}
	e := g.edits[a]
	at := &g.replicas[e.Replica]
	values := valuesOf(at.mapOfHead())
	old, had := values[e.Entry.Name]
	if had != e.Gone && old == e.Entry.Value {
		return impl.ErrState
	}
	if values[e.Entry.Name] = e.Entry.Value; e.Gone {
		delete(values, e.Entry.Name)
	}
	c := at.next(at.parents(), mapOf(values), "write "+strconv.FormatInt(a, 10))
	if len(at.keys) == impl.MaxCommits {
		return impl.ErrLimit
	}
	if slices.Contains(at.keys, plainCommitKey(c)) {
		return impl.ErrState
	}
	g.add(e.Replica, c, mapOf(values))
	at.head = plainCommitKey(c)
	return impl.OK
}

func (g *plainGroup) send(a, b, c int64) int64 {
	if !g.has(a) || !g.has(b) || a == b || c >= int64(len(g.replicas[a].keys)) {
		return impl.ErrRange
	}
	if len(g.wire) == impl.MaxWire {
		return impl.ErrLimit
	}
	from := g.replicas[a].book
	g.wire = append(g.wire, impl.Parcel{To: b, Commit: from.Commits[c], Map: from.Maps[c]})
	return impl.OK
}

func (g *plainGroup) take(a int64, comesIn, isRemoved bool) int64 {
	if a >= int64(len(g.wire)) {
		return impl.ErrRange
	}
	p := g.wire[a]
	if isRemoved {
		g.wire = slices.Concat(g.wire[:a], g.wire[a+1:])
	}
	at := g.replicas[p.To]
	lacks := func(k impl.Key) bool { return !slices.Contains(at.keys, k) }
	if comesIn && !slices.ContainsFunc(p.Commit.Parents, lacks) && lacks(plainCommitKey(p.Commit)) && len(at.keys) < impl.MaxCommits {
		g.add(p.To, p.Commit, p.Map)
	}
	return impl.OK
}

// firstBase returns the map of the first one of the bases of two commits of a replica.
func (g *plainGroup) firstBase(at plainReplica, a, k impl.Key) []impl.Entry {
	var bases []impl.Key
	common := func(c impl.Key) bool { return g.up[a][c] && g.up[k][c] }
	for _, c := range at.keys {
		isLater := func(other impl.Key) bool { return other != c && common(other) && g.up[other][c] }
		if common(c) && !slices.ContainsFunc(at.keys, isLater) {
			bases = append(bases, c)
		}
	}
	if len(bases) == 0 {
		return nil
	}
	return at.book.Maps[slices.Index(at.keys, ascending(bases...)[0])]
}

func (g *plainGroup) merge(a, b int64) int64 {
	if !g.has(a) || b < 0 || b >= int64(len(g.replicas[a].keys)) {
		return impl.ErrRange
	}
	at := &g.replicas[a]
	theirs := at.keys[b]
	switch {
	case g.up[at.head][theirs]:
		return impl.ErrState
	case at.head == impl.Key{} || g.up[theirs][at.head]:
		at.head = theirs
		return impl.OK
	}
	list := plainJoin(g.firstBase(*at, at.head, theirs), at.mapOfHead(), at.book.Maps[b])
	c := at.next([]impl.Key{at.head, theirs}, list, "merge")
	if k := plainCommitKey(c); !slices.Contains(at.keys, k) {
		if len(at.keys) == impl.MaxCommits {
			return impl.ErrLimit
		}
		g.add(a, c, list)
	}
	at.head = plainCommitKey(c)
	return impl.OK
}

// plainJoin is JoinMaps as the document tells it, but without a limit.
func plainJoin(base, ours, theirs []impl.Entry) []impl.Entry {
	merged, conflicts := plainMerge(base, ours, theirs)
	values := valuesOf(merged)
	for _, c := range conflicts { // one of the sides has a value at least, as otherwise both have the same
		values[c.Name] = max(c.Ours.New, c.Theirs.New)
	}
	return mapOf(values)
}

// isJoined reports whether all replicas have the same head.
func (g *plainGroup) isJoined() bool {
	return !slices.ContainsFunc(g.replicas, func(at plainReplica) bool { return at.head != g.replicas[0].head })
}

// planner finds deeds as the document tells it, and does them at once.
type planner struct {
	*plainGroup
	deeds  []impl.Deed
	failed bool
}

func (p *planner) plan(d impl.Deed) {
	p.deeds = append(p.deeds, d)
	p.failed = p.failed || p.do(d) != impl.OK
}

func (p *planner) carry(from, to int64) {
	for i, k := range p.replicas[from].keys {
		if !slices.Contains(p.replicas[to].keys, k) {
			p.plan(impl.Deed{Kind: impl.DdSend, A: from, B: to, C: int64(i)})
			p.plan(impl.Deed{Kind: impl.DdDeliver})
		}
	}
}

func (p *planner) join(r int64, head impl.Key) {
	p.plan(impl.Deed{Kind: impl.DdMerge, A: r, B: int64(slices.Index(p.replicas[r].keys, head))})
}

// finish is FinishDeeds as the document tells it, behind some deeds.
func (g *plainGroup) finish(behind int) ([]impl.Deed, int64) {
	p := &planner{plainGroup: g.clone()}
	for range g.wire {
		p.plan(impl.Deed{Kind: impl.DdDrop})
	}
	others := g.replicas[1:]
	for i := range others {
		p.carry(int64(i)+1, 0)
	}
	for _, at := range others {
		if at.head != (impl.Key{}) && !p.up[p.replicas[0].head][at.head] {
			p.join(0, at.head)
		}
	}
	for i, at := range others {
		p.carry(0, int64(i)+1)
		if at.head != p.replicas[0].head {
			p.join(int64(i)+1, p.replicas[0].head)
		}
	}
	for r := range g.replicas {
		p.plan(impl.Deed{Kind: impl.DdSave, A: int64(r)})
	}
	if p.failed || behind+len(p.deeds) > impl.MaxDeeds {
		return nil, impl.ErrLimit
	}
	return p.deeds, impl.OK
}

// words are those of the kinds of deeds, and mentioned are how many numbers are behind each of them.
var (
	words     = []string{"", "write", "send", "deliver", "copy", "drop", "merge", "save", "crash"}
	mentioned = []int{0, 1, 3, 1, 1, 1, 2, 1, 1}
)

// plainDeedText is DeedText as the document tells it, of a valid deed.
func plainDeedText(d impl.Deed) string {
	text := words[d.Kind]
	for _, n := range []int64{d.A, d.B, d.C}[:mentioned[d.Kind]] {
		text += " " + strconv.FormatInt(n, 10)
	}
	return text
}

// deedsIn returns the deeds of a story, which are separated by commas.
func deedsIn(story string) []impl.Deed {
	var deeds []impl.Deed
	for text := range strings.SplitSeq(story, ", ") {
		fields := strings.Fields(text)
		if len(fields) == 0 {
			continue
		}
		numbers := make([]int64, 3)
		for i, field := range fields[1:] {
			numbers[i], _ = strconv.ParseInt(field, 10, 64)
		}
		deeds = append(deeds, impl.Deed{Kind: int64(slices.Index(words, fields[0])), A: numbers[0], B: numbers[1], C: numbers[2]})
	}
	return deeds
}

// story returns the texts of deeds, separated by commas.
func story(deeds []impl.Deed) string {
	var texts []string
	for _, d := range deeds {
		texts = append(texts, plainDeedText(d))
	}
	return strings.Join(texts, ", ")
}

// put returns the edit that gives a name a value at a replica.
func put(replica int64, name, value string) impl.Edit {
	return impl.Edit{Replica: replica, Entry: impl.Entry{Name: name, Value: value}}
}

// gone returns the edit that deletes a name at a replica.
func gone(replica int64, name string) impl.Edit {
	return impl.Edit{Replica: replica, Entry: impl.Entry{Name: name}, Gone: true}
}

// setup returns a setup.
func setup(replicas int64, edits ...impl.Edit) impl.Setup {
	return impl.Setup{Replicas: replicas, Edits: edits}
}

// equalReplicas reports whether two replicas are equal.
func equalReplicas(a, b impl.Replica) bool {
	return a.Head == b.Head && equalBooks(a.Book, b.Book)
}

// equalParcels reports whether two parcels are equal.
func equalParcels(a, b impl.Parcel) bool {
	return a.To == b.To && equalCommits(a.Commit, b.Commit) && slices.Equal(a.Map, b.Map)
}

// equalGroups reports whether two groups are equal.
func equalGroups(a, b impl.Group) bool {
	return slices.EqualFunc(a.Replicas, b.Replicas, equalReplicas) && slices.EqualFunc(a.Saved, b.Saved, equalReplicas) &&
		slices.EqualFunc(a.Wire, b.Wire, equalParcels)
}

// sameGroup fails the test if got is not want.
func sameGroup(t *testing.T, name string, got, want impl.Group) {
	t.Helper()
	if !equalGroups(got, want) {
		t.Errorf("%s: got the group %v, want %v", name, got, want)
	}
}

// areBooksValid fails the test if a book of a group is not valid, or a head is no commit of its book.
func areBooksValid(t *testing.T, name string, g impl.Group) {
	t.Helper()
	for i, at := range slices.Concat(g.Replicas, g.Saved) {
		same(t, numbered(name+": ValidBook", i), impl.ValidBook(at.Book), true)
		if at.Head != (impl.Key{}) && !slices.Contains(commitKeys(at.Book), at.Head) {
			t.Errorf("%s: the head of the replica %d is no commit of its book", name, i)
		}
	}
}

// groupAfter returns the group after deeds, of which so many are done.
func groupAfter(t *testing.T, name string, v impl.Setup, deeds []impl.Deed, done int) impl.Group {
	t.Helper()
	g, count, code := impl.GroupAfter(v, deeds)
	same(t, name+": code of GroupAfter", code, impl.OK)
	same(t, name+": deeds that are done", count, int64(done))
	return g
}

// behind returns the group after the deeds of a story, all of which are done.
func behind(t *testing.T, v impl.Setup, text string) impl.Group {
	t.Helper()
	deeds := deedsIn(text)
	return groupAfter(t, text, v, deeds, len(deeds))
}

// isRefusedDeed fails the test if RefusedDeed does not tell a deed and its error.
func isRefusedDeed(t *testing.T, name string, at int, want int64) func(int64, int64, int64) {
	return func(i, refused, code int64) {
		t.Helper()
		same(t, name+": code of RefusedDeed", code, impl.OK)
		same(t, name+": the deed that is left out", i, int64(at))
		same(t, name+": its error", refused, want)
	}
}

// isNoRefusedDeed fails the test if RefusedDeed does not return an error and nothing else.
func isNoRefusedDeed(t *testing.T, name string, want int64) func(int64, int64, int64) {
	return func(i, refused, code int64) {
		t.Helper()
		same(t, name+": code of RefusedDeed", code, want)
		same(t, name+": the deed that is left out", i, 0)
		same(t, name+": its error", refused, 0)
	}
}

// isNoGroup fails the test if GroupAfter does not return an error and nothing else.
func isNoGroup(t *testing.T, name string, want int64) func(impl.Group, int64, int64) {
	return func(g impl.Group, done, code int64) {
		t.Helper()
		same(t, name+": code of GroupAfter", code, want)
		same(t, name+": deeds that are done", done, 0)
		sameGroup(t, name, g, impl.Group{})
	}
}

// checkDeeds checks all that is told of the group after deeds, and returns it.
func checkDeeds(t *testing.T, name string, v impl.Setup, deeds []impl.Deed) *plainGroup {
	t.Helper()
	g, done, first, refused := begin(v), 0, 0, int64(impl.OK)
	for i, d := range deeds {
		code := g.do(d)
		if code == impl.OK {
			done++
		} else if refused == impl.OK {
			first, refused = i, code
		}
	}
	got := groupAfter(t, name, v, deeds, done)
	sameGroup(t, name, got, g.group())
	areBooksValid(t, name, got)
	if refused == impl.OK {
		isNoRefusedDeed(t, name, impl.ErrNotFound)(impl.RefusedDeed(v, deeds))
	} else {
		isRefusedDeed(t, name, first, refused)(impl.RefusedDeed(v, deeds))
	}
	for r, at := range g.replicas {
		isMap(t, numbered(name+": MapAt", r), at.mapOfHead())(impl.MapAt(v, deeds, int64(r)))
	}
	isTold(t, name+": AreJoined", g.isJoined())(impl.AreJoined(v, deeds))
	return g
}

// checkFinish checks FinishDeeds behind deeds, of which so many are done and after which there is a group, and that the
// planned deeds do what they should. It returns them.
func checkFinish(t *testing.T, name string, v impl.Setup, deeds []impl.Deed, g *plainGroup, done int) []impl.Deed {
	t.Helper()
	want, code := g.finish(len(deeds))
	if code != impl.OK {
		isNone[impl.Deed](t, name+": FinishDeeds", code)(impl.FinishDeeds(v, deeds))
		return nil
	}
	plan, code := impl.FinishDeeds(v, deeds)
	same(t, name+": code of FinishDeeds", code, impl.OK)
	same(t, name+": FinishDeeds", story(plan), story(want))
	all := slices.Concat(deeds, plan)
	after := groupAfter(t, name+": in the end", v, all, done+len(plan))
	isFinished(t, name+": in the end", v, all, after)
	return plan
}

// isFinished fails the test if all replicas do not have one head, its map, and nothing on the wire, all being saved.
func isFinished(t *testing.T, name string, v impl.Setup, all []impl.Deed, after impl.Group) {
	t.Helper()
	areBooksValid(t, name, after)
	same(t, name+": parcels", len(after.Wire), 0)
	isTold(t, name+": AreJoined", true)(impl.AreJoined(v, all))
	list, _ := impl.MapAt(v, all, 0)
	for r, at := range after.Replicas {
		same(t, numbered(name+": head", r), at.Head, after.Replicas[0].Head)
		isMap(t, numbered(name+": MapAt", r), list)(impl.MapAt(v, all, int64(r)))
		if !equalReplicas(at, after.Saved[r]) {
			t.Errorf("%s: the replica %d is not saved", name, r)
		}
	}
}
