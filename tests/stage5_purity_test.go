package tests

import (
	"fmt"
	"reflect"
	"slices"
	"strings"
	"testing"

	"loop.example/g01174/impl"
)

// area is the memory of a slice, the room behind it included.
type area struct {
	begin, end uintptr
}

// eachSlice calls a function for each slice in a value, those below other slices included, the room behind them not.
func eachSlice(v reflect.Value, call func(reflect.Value)) {
	switch v.Kind() {
	case reflect.Slice:
		call(v)
		for i := range v.Len() {
			eachSlice(v.Index(i), call)
		}
	case reflect.Struct:
		for i := range v.NumField() {
			eachSlice(v.Field(i), call)
		}
	}
}

// areasOf returns the memory of all slices in some values.
func areasOf(values []reflect.Value) []area {
	var areas []area
	for _, v := range values {
		eachSlice(v, func(s reflect.Value) {
			if size := uintptr(s.Cap()) * s.Type().Elem().Size(); size > 0 {
				areas = append(areas, area{s.Pointer(), s.Pointer() + size})
			}
		})
	}
	return areas
}

// areApart reports whether no two areas share memory.
func areApart(areas []area) bool {
	for i, a := range areas {
		for _, b := range areas[:i] {
			if a.begin < b.end && b.begin < a.end {
				return false
			}
		}
	}
	return true
}

// roomy returns a copy of a value, all slices of which have room behind them, in which something stands.
func roomy(v reflect.Value) reflect.Value {
	own := reflect.New(v.Type()).Elem()
	own.Set(v)
	switch v.Kind() {
	case reflect.Slice:
		n := v.Len()
		own.Set(reflect.MakeSlice(v.Type(), n+5, n+5))
		for i := range n + 5 {
			if n > 0 {
				own.Index(i).Set(roomy(v.Index(i % n)))
			}
		}
		own.SetLen(n)
	case reflect.Struct:
		for i := range v.NumField() {
			own.Field(i).Set(roomy(v.Field(i)))
		}
	}
	return own
}

// wholeText returns the text of a value with the room behind all its slices.
func wholeText(values []reflect.Value) string {
	var text strings.Builder
	for _, v := range values {
		fmt.Fprintf(&text, "%v;", v)
		eachSlice(v, func(s reflect.Value) { fmt.Fprintf(&text, " %v", s.Slice(0, s.Cap())) })
	}
	return text.String()
}

// wreck overwrites all slices in some values, the room behind them included.
func wreck(values []reflect.Value) {
	for _, v := range values {
		var slices []reflect.Value
		eachSlice(v, func(s reflect.Value) { slices = append(slices, s.Slice(0, s.Cap())) })
		for i := range slices { // the last ones first, as those below a slice are not found behind it
			s := slices[len(slices)-1-i]
			for k := range s.Len() {
				if e := s.Index(k); e.Kind() == reflect.Uint8 {
					e.SetUint(noByte)
				} else {
					e.SetZero()
				}
			}
		}
	}
}

// textOf returns the text of values, nil being the empty slice.
func textOf(values []reflect.Value) string {
	var text strings.Builder
	for _, v := range values {
		fmt.Fprintf(&text, "%v;", v)
	}
	return text.String()
}

// checkPure checks that a function writes nothing into its arguments, that its results share no memory with them or with
// each other, and that it tells the same again, and keeps it when the arguments and other results are overwritten.
func checkPure(t *testing.T, name string, function any, arguments ...any) {
	t.Helper()
	call := reflect.ValueOf(function)
	var given []reflect.Value
	for i, a := range arguments {
		if a == nil {
			given = append(given, reflect.Zero(call.Type().In(i)))
			continue
		}
		given = append(given, roomy(reflect.ValueOf(a)))
	}
	before := wholeText(given)
	one := call.Call(given)
	want := textOf(one)
	two := call.Call(given)
	if wholeText(given) != before {
		t.Errorf("%s: an argument is written into", name)
	}
	if !areApart(slices.Concat(areasOf(given), areasOf(one), areasOf(two))) {
		t.Errorf("%s: a result shares memory with an argument or with another result", name)
	}
	wreck(one)
	if wholeText(given) != before {
		t.Errorf("%s: an argument changes with a result", name)
	}
	wreck(given)
	same(t, name+": a second time", textOf(two), want)
}

// TestPurityIsFound shows that the check of these tests finds what it should.
func TestPurityIsFound(t *testing.T) {
	apart := func(s impl.Store) bool { return areApart(areasOf([]reflect.Value{reflect.ValueOf(s)})) }
	data := []byte("abcdef")
	same(t, "two blobs", apart(impl.Store{Blobs: []impl.Blob{blobOf(1, data), blobOf(2, data)}}), true)
	same(t, "the same bytes", apart(impl.Store{Blobs: []impl.Blob{{Data: data}, {Data: data}}}), false)
	same(t, "bytes side by side", apart(impl.Store{Blobs: []impl.Blob{{Data: data[:3:3]}, {Data: data[3:]}}}), true)
	same(t, "room behind bytes", apart(impl.Store{Blobs: []impl.Blob{{Data: data[:3]}, {Data: data[3:]}}}), false)
	v := []reflect.Value{roomy(reflect.ValueOf(impl.Store{Blobs: []impl.Blob{blobOf(1, data)}}))}
	text, whole := textOf(v), wholeText(v)
	same(t, "a copy", text, "{[{1 [97 98 99 100 101 102]}]};")
	wreck(v)
	same(t, "nothing changes", textOf(v) == text || wholeText(v) == whole, false)
}

func TestBlobsAreApart(t *testing.T) {
	blobs := []impl.Blob{{}, blobOf(3), chunkBlob("abc"), pairBlob(impl.Key{1}, impl.Key{2}), nodeBlob(nodeOver(impl.Key{1}, "a", impl.Key{2})), folderOf(impl.Key{1}, impl.Key{1}), commitOf("note", impl.Key{1}, impl.Key{2})}
	for i, b := range append(blobs, wrongBlobs()[:4]...) {
		name := numbered(" of the blob", i)
		checkPure(t, "ValidBlob"+name, impl.ValidBlob, b)
		checkPure(t, "SameBlob"+name, impl.SameBlob, b, b)
		checkPure(t, "BlobKey"+name, impl.BlobKey, b)
		checkPure(t, "LinksOf"+name, impl.LinksOf, b)
		for _, s := range []impl.Store{{}, plainOf(blobs...).store(), fullStore(), wrongStores()[2]} {
			checkPure(t, "PutBlob"+name, impl.PutBlob, s, b)
			checkPure(t, "GetBlob"+name, impl.GetBlob, s, plainBlobKey(b))
			checkPure(t, "DropBlob"+name, impl.DropBlob, s, plainBlobKey(b))
		}
	}
}

// pureStores returns stores that are tried as arguments, some of them not valid, and keys of some blobs.
func pureStores() ([]impl.Store, []impl.Key) {
	tree, root := mapBlobs(countedMap(9))
	list, key := listBlobs(slices.Concat(countedChunks(5), countedChunks(5), []string{"", ""})...)
	top := folderOf(root, key, impl.Key{1}, root)
	all := tree.and(list).and(plainOf(top, blobOf(3), commitOf("note", plainBlobKey(top))))
	return []impl.Store{{}, all.store(), all.without(tree.keys()[3], list.keys()[3]).store(), fullStore(), wrongStores()[1], wrongStores()[9]},
		[]impl.Key{{}, root, key, plainBlobKey(top), plainBlobKey(commitOf("note", plainBlobKey(top))), plainBlobKey(blobOf(3)), impl.EmptyMapKey()}
}

func TestStoresAreApart(t *testing.T) {
	stores, keys := pureStores()
	for i, s := range stores {
		name := numbered(" of the store", i)
		for title, function := range map[string]any{"ValidStore": impl.ValidStore, "KeysOfStore": impl.KeysOfStore, "StoreBytes": impl.StoreBytes, "LinkCounts": impl.LinkCounts, "RootsOf": impl.RootsOf} {
			checkPure(t, title+name, function, s)
		}
		for _, other := range stores {
			for title, function := range map[string]any{"SameStore": impl.SameStore, "JoinStores": impl.JoinStores, "MinusStores": impl.MinusStores} {
				checkPure(t, title+name, function, s, other)
			}
		}
		for _, k := range keys {
			checkPure(t, "LoadMap"+name, impl.LoadMap, s, k)
			for _, n := range []int64{-1, 0, 1, 2, 12} {
				checkPure(t, "LoadList"+name, impl.LoadList, s, k, n)
			}
			for _, other := range keys {
				checkPure(t, "LinkPath"+name, impl.LinkPath, s, k, other)
			}
		}
	}
}

func TestWhatIsStoredIsApart(t *testing.T) {
	stores, keys := pureStores()
	for i, s := range stores {
		name := numbered(" into the store", i)
		for _, list := range [][]impl.Entry{nil, entries("a", "1"), countedMap(9), countedMap(20), wrongMaps()[0]} {
			checkPure(t, "StoreMap"+name, impl.StoreMap, s, list)
		}
		for _, texts := range [][]string{nil, {""}, countedChunks(1), countedChunks(9), slices.Repeat([]string{"x", "y"}, 20), {string(make([]byte, 1025))}} {
			checkPure(t, "StoreList"+name, impl.StoreList, s, bytesOfAll(texts...))
		}
		for _, n := range []int{0, 1, len(keys)} {
			checkPure(t, "PutFolder"+name, impl.PutFolder, s, keys[:n])
		}
		checkPure(t, "PutFolder of many keys"+name, impl.PutFolder, s, make([]impl.Key, 33))
	}
}

func TestWhatIsReachableIsApart(t *testing.T) {
	stores, keys := pureStores()
	for i, s := range stores {
		name := numbered(" of the store", i)
		for n := range keys {
			roots := slices.Concat(keys[n:], keys[:1], keys[n:])
			checkPure(t, "ReachableFrom"+name, impl.ReachableFrom, s, roots)
			checkPure(t, "MissingFrom"+name, impl.MissingFrom, s, roots)
			leases := []impl.Lease{{Key: keys[n], Until: 7}, {Key: keys[0], Until: 3}, {Key: keys[1], Until: 5}, {Key: keys[2], Until: 4}}
			for _, now := range []int64{-1, 0, 4, 9} {
				checkPure(t, "Collect"+name, impl.Collect, s, roots, leases, now)
				checkPure(t, "DeadIn"+name, impl.DeadIn, s, roots[:1], leases, now)
				checkPure(t, "Collect without roots"+name, impl.Collect, s, nil, leases, now)
				checkPure(t, "DeadIn without leases"+name, impl.DeadIn, s, roots, nil, now)
			}
		}
	}
}

func TestLargeArgumentsOfStoresReturn(t *testing.T) {
	long := blobOf(1, make([]byte, 1000000))
	many := impl.Store{Blobs: make([]impl.Blob, 400000)}
	keys, leases := make([]impl.Key, 30000), make([]impl.Lease, 300000)
	same(t, "ValidBlob", impl.ValidBlob(long), false)
	same(t, "SameBlob", impl.SameBlob(long, long), true)
	isCode[impl.Key](t, "BlobKey", impl.ErrInvalid)(impl.BlobKey(long))
	isError(t, "LinksOf", impl.ErrInvalid)(impl.LinksOf(long))
	same(t, "ValidStore", impl.ValidStore(many), false)
	same(t, "SameStore", impl.SameStore(many, many), true)
	isNotPut(t, "PutBlob", impl.ErrInvalid)(impl.PutBlob(many, long))
	isNoStore(t, "JoinStores", impl.ErrInvalid)(impl.JoinStores(many, many))
	isNotPut(t, "StoreMap", impl.ErrInvalid)(impl.StoreMap(many, make([]impl.Entry, 100000)))
	isNotPut(t, "StoreList", impl.ErrLimit)(impl.StoreList(many, make([][]byte, 500000)))
	isNotPut(t, "StoreList of a long chunk", impl.ErrInvalid)(impl.StoreList(impl.Store{}, [][]byte{long.Data}))
	isNotPut(t, "PutFolder", impl.ErrLimit)(impl.PutFolder(impl.Store{}, keys))
	isError(t, "ReachableFrom", impl.ErrLimit)(impl.ReachableFrom(impl.Store{}, keys))
	isNoStore(t, "Collect", impl.ErrLimit)(impl.Collect(impl.Store{}, nil, leases, 0))
	isError(t, "DeadIn", impl.ErrLimit)(impl.DeadIn(impl.Store{}, keys, leases, 0))
}
