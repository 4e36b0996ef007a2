package versions_test

import (
	"fmt"
	"math"
	"math/rand"
	"slices"
	"testing"

	"versions/api"
	"versions/pack"
	"versions/record"
	"versions/versions"
)

// greatNumbers are those around which a number of fewer bits ends, and such as are near the greatest int.
var greatNumbers = []int{
	math.MaxInt16, math.MaxUint16, math.MaxInt32 - 1, math.MaxInt32, math.MaxInt32 + 1, math.MaxUint32 - 1, math.MaxUint32, 1 << 32,
	1<<35 - 2, 1<<35 - 1, 1 << 35, 1<<42 - 1, 1<<49 - 1, 1<<53 - 1, 1<<56 - 1, 1<<62 - 1, 1 << 62, math.MaxInt - 200,
}

// numbered is a device on which each of the paths has one version, with that number and the content old.
func numbered(t testing.TB, sectors, number int, paths ...string) *api.Device {
	t.Helper()
	records := record.AppendChunk(nil, 0, []byte("old"))
	for i, path := range paths {
		records = record.AppendVersion(records, uint32(i), path, number, []uint32{0})
	}
	return written(t, sectors, records)
}

// P5: numbers go on behind each number, again and again; behind Prune, Collect and Open too.
func TestNumbersGoOn(t *testing.T) {
	for _, latest := range greatNumbers {
		d := numbered(t, 96, latest, "a")
		a := opened(t, d, plenty)
		for i := 1; i <= 150; i++ {
			expectPut(t, a, "a", noise(uint32(i), i%3*20), latest+i)
			if i%7 == 0 {
				expectError(t, "Delete", a.Delete("a", latest+i-1), api.OK)
			}
			if i%10 == 0 {
				if _, err := a.Prune("a", 1); err != nil {
					t.Fatalf("Prune behind %d: %v", latest+i, err)
				}
				expectVersions(t, a, "a", latest+i)
			}
			if i%20 == 0 {
				collected(t, a)
			}
			if i%25 == 0 {
				a = reopened(t, a, d, plenty)
			}
		}
		expectVersions(t, a, "a", latest+150)
		expectPut(t, a, "b", nil, 1)
	}
}

// others are numbers that are not those of the versions, but that have bits in common with the first one.
func others(numbers ...int) []int {
	n := numbers[0]
	all := []int{n - 1, numbers[len(numbers)-1] + 1, -n, n + 1<<32, n - 1<<32, n + 1<<35, n ^ 1<<31, n ^ 1<<62, n & math.MaxInt32, n & math.MaxUint32, n >> 1, math.MinInt | n, math.MaxInt, math.MinInt, 1, -1}
	return slices.DeleteFunc(all, func(n int) bool { return n == 0 || slices.Contains(numbers, n) })
}

// P6 to P9: each call tells versions by great numbers, and those that are not there are missing; behind Close and Open too.
func TestCallsWithGreatNumbers(t *testing.T) {
	for _, n := range greatNumbers {
		d := numbered(t, 96, n, "a")
		a := opened(t, d, plenty)
		expectPut(t, a, "a", []byte("one"), n+1)
		expectPut(t, a, "a", []byte("second"), n+2)
		expectTag(t, a, "t", "a", n, api.OK)
		expectTag(t, a, "u", "a", 0, api.OK)
		for range 2 {
			expectVersions(t, a, "a", n, n+1, n+2)
			expectList(t, a, "", api.Entry{Path: "a", Latest: n + 2, Size: 6, Versions: 3})
			expectTags(t, a, api.Pin{Tag: "t", Path: "a", Version: n}, api.Pin{Tag: "u", Path: "a", Version: n + 2})
			for version, want := range map[int]string{0: "second", n: "old", n + 1: "one", n + 2: "second"} {
				expectGet(t, a, "a", version, []byte(want))
				expectRead(t, a, "a", version, 1, 2, want[1:3])
			}
			for _, other := range others(n, n+1, n+2) {
				expectNoGet(t, a, "a", other, api.ErrMissing)
				expectNoRead(t, a, "a", other, 0, 1, api.ErrMissing)
				expectDelete(t, a, "a", other, api.ErrMissing)
				expectTag(t, a, "new", "a", other, api.ErrMissing)
			}
			expectDelete(t, a, "a", n, api.ErrPinned)
			expectDelete(t, a, "a", 0, api.ErrPinned)
			a = reopened(t, a, d, plenty)
		}
		expectGreatNumbersGo(t, a, d, n)
	}
}

// expectGreatNumbersGo takes away three versions, of which tags hold the first and the last one.
func expectGreatNumbersGo(t *testing.T, a *versions.Archive, d *api.Device, n int) {
	t.Helper()
	expectDelete(t, a, "a", n+1, api.OK)
	expectVersions(t, a, "a", n, n+2)
	expectPut(t, a, "a", []byte("third"), n+3)
	expectPrune(t, a, "a", 0, 1)
	expectVersions(t, a, "a", n, n+2)
	expectPut(t, a, "a", nil, n+3)
	expectUntag(t, a, "t", api.OK)
	expectUntag(t, a, "u", api.OK)
	a = reopened(t, a, d, plenty)
	expectPrune(t, a, "a", math.MaxInt, 0)
	expectPrune(t, a, "a", n, 0)
	expectPrune(t, a, "a", 2, 1)
	expectVersions(t, a, "a", n+2, n+3)
	expectDelete(t, a, "a", 0, api.OK)
	a = reopened(t, a, d, plenty)
	expectList(t, a, "", api.Entry{Path: "a", Latest: n + 2, Size: 6, Versions: 1})
	expectPut(t, a, "a", nil, n+3)
	expectPrune(t, a, "a", 0, 2)
	expectMissing(t, a, "a")
	expectPut(t, a, "a", nil, 1)
}

// P4 to P11: many calls on versions with great numbers, held against a model.
func TestGreatNumbersAgainstAModel(t *testing.T) {
	for seed, number := range greatNumbers {
		r := rand.New(rand.NewSource(int64(seed)))
		s := sessionOver(t, fmt.Sprint("from ", number), numbered(t, 3000, number, longPath, "a", "abcdefghij/klmnopqr0", "b"))
		for i := range 150 {
			expectAnswer(t, s.what, s.archive, s.model, randomOp(r, 400).near(s.model))
			if i%30 == 29 {
				s.again(i%60 == 59)
			}
			expectSame(t, s.what, s.archive, s.model)
		}
	}
}

// crossing is a session in which numbers go up; of that path there is one version.
func crossing(path string) []op {
	return []op{
		{call: "Put", path: path, content: noise(1, 90)}, {call: "Tag", name: "t", path: path}, {call: "Put", path: path}, {call: "Sync"}, {call: "Prune", path: path},
		{call: "Put", path: path, content: noise(2, 60)}, {call: "Untag", name: "t"}, {call: "Put", path: path}, {call: "Prune", path: path, number: 2},
		{call: "Delete", path: path}, {call: "Collect"}, {call: "Put", path: path, content: noise(1, 90)},
	}
}

// P13, P14: the power is cut, and bits are turned about, where numbers go beyond those of fewer bits.
func TestDamageOfGreatNumbers(t *testing.T) {
	for _, number := range []int{math.MaxInt32 - 1, math.MaxUint32 - 1, 1<<56 - 2, math.MaxInt - 10} {
		before := numbered(t, api.MinSectors, number, "a")
		cutAll(t, fmt.Sprint("from ", number), before, crossing("a"), 0, 1, keeps, ignore)
		states, _, err := play(opened(t, before.Copy(), plenty), copied(t, before)(), crossing("a"))
		if err != nil {
			t.Fatal(err)
		}
		expectFlips(t, fmt.Sprint("from ", number), played(t, before, crossing("a")), 0, 3, states)
	}
}

// P12: versions with great numbers take no more room than is promised; beside tags neither.
func TestAtTheBoundWithGreatNumbers(t *testing.T) {
	for _, sectors := range []int{100, 300, 1000} {
		for _, longest := range []int{4000, 50, 0} {
			for _, tags := range []bool{false, true} {
				s := sessionOver(t, fmt.Sprintf("contents of %d bytes, tags %t", longest, tags), numbered(t, sectors, 1<<62, longPath, "held"))
				if tags {
					s.fillWithTags()
					s.again(false)
				}
				for i := range 4 {
					collect := i%2 == 0
					s.fill(contents()["small chunks"], longest, 600)
					s.do(op{call: "Prune", path: longPath, number: 1})
					s.again(collect)
				}
				s.fill(contents()["small chunks"], longest, 0)
			}
		}
	}
}

// P1, P5: behind the greatest int there is no number: nothing is put there, and all else goes on.
func TestPutBehindTheGreatestInt(t *testing.T) {
	d := numbered(t, 96, math.MaxInt-1, "a")
	a := opened(t, d, 1000)
	expectPut(t, a, "a", []byte("last"), math.MaxInt)
	for range 2 {
		full := beforeOf(t, a)
		for range 3 {
			expectNoPut(t, a, "a", []byte("more"), api.ErrCorrupt)
			expectNoPut(t, a, "a", nil, api.ErrCorrupt)
			full.expect(t, "behind the greatest int", a)
		}
		expectNoPut(t, a, "a", make([]byte, api.MaxContent+1), api.ErrSize)
		expectNoPut(t, a, "a", make([]byte, 1000), api.ErrQuota)
		expectGet(t, a, "a", 0, []byte("last"))
		expectGet(t, a, "a", math.MaxInt, []byte("last"))
		expectVersions(t, a, "a", math.MaxInt-1, math.MaxInt)
		expectPut(t, a, "b", []byte("x"), 1)
		expectDelete(t, a, "b", 1, api.OK)
		a = reopened(t, a, d, 1000)
	}
	expectTag(t, a, "t", "a", 0, api.OK)
	expectTags(t, a, api.Pin{Tag: "t", Path: "a", Version: math.MaxInt})
	expectUntag(t, a, "t", api.OK)
	expectDelete(t, a, "a", math.MaxInt, api.OK)
	expectPut(t, a, "a", nil, math.MaxInt)
	expectPrune(t, a, "a", 0, 2)
	expectPut(t, a, "a", nil, 1)
}

// P13: without power that is what is answered.
func TestPutBehindTheGreatestIntWithoutPower(t *testing.T) {
	d := numbered(t, 96, math.MaxInt, "a")
	a := opened(t, d, plenty)
	d.Cut(0)
	expectError(t, "Sync", a.Sync(), api.ErrPower)
	expectNoPut(t, a, "a", nil, api.ErrPower)
}

// recordWith is the record of a version of the path a, whose number is these bytes.
func recordWith(number []byte) []byte {
	const kinds, kindVersion = 4, 1
	body := slices.Concat([]byte{0}, number, []byte{0, 1})
	return append(pack.AppendShort(nil, uint64(len(body)*kinds+kindVersion)), body...)
}

func TestRecordWith(t *testing.T) {
	for _, n := range greatNumbers {
		got, want := recordWith(pack.AppendShort(nil, uint64(n))), record.AppendVersion(nil, 0, "a", n, nil)
		if !slices.Equal(got, want) {
			t.Errorf("the record of %d is %v, want %v", n, got, want)
		}
	}
}

// P1: a device with any number in a version: one that an int can be is told, and all calls go on from it; else Open answers ErrCorrupt.
func TestAnyNumber(t *testing.T) {
	c := newChecker(t, 7)
	c.room = true
	for bit := range 64 {
		for _, n := range []uint64{1<<bit - 1, 1 << bit, 1<<bit + 1, 1<<bit | 0x5a5a5a5a5a5a5a5a&(1<<bit-1)} {
			what := fmt.Sprint("the number ", n)
			d := written(t, 200, recordWith(pack.AppendShort(nil, n)))
			a, err := versions.Open(d, plenty)
			if n == 0 || n > math.MaxInt {
				if expectError(t, what, err, api.ErrCorrupt); a != nil {
					t.Errorf("%s: an archive beside %v", what, err)
				}
				continue
			}
			if err != nil {
				t.Fatalf("%s: %v", what, err)
			}
			expectVersions(t, a, "a", int(n))
			if n < math.MaxInt {
				expectPut(t, a, "a", noise(uint32(bit), 30), int(n+1))
			} else {
				expectNoPut(t, a, "a", noise(uint32(bit), 30), api.ErrCorrupt)
			}
			c.check(what, d)
		}
	}
	c.expectArchives(250)
}

// P1: a number that no int and no number of 64 bits can be.
func TestNumbersOfManyBytes(t *testing.T) {
	for n := 9; n < 100; n++ {
		for _, last := range []byte{1, 2, 3, 127} {
			number := append(slices.Repeat([]byte{255}, n), last)
			if a, err := versions.Open(written(t, 96, recordWith(number)), plenty); a != nil || api.Tell(err) != api.ErrCorrupt {
				t.Errorf("a number of %d bytes: %v, %v", n+1, a, err)
			}
		}
	}
}

// P1: some versions with any numbers, rising or not, some of them held, some pruned.
func TestAnyNumbers(t *testing.T) {
	c := newChecker(t, 7)
	c.room = true
	for i := range 1500 {
		records := record.AppendChunk(nil, 0, []byte("old"))
		n := 0
		for id := range uint32(1 + c.r.Intn(5)) {
			switch c.r.Intn(8) {
			case 0:
				n = math.MaxInt - c.r.Intn(4)
			case 1:
				records = record.AppendPrune(records, "a", int(c.r.Uint64()>>(1+c.r.Intn(63))))
				fallthrough
			default:
				n = max(n, int(c.r.Uint64()>>(1+c.r.Intn(63))))
			}
			records = record.AppendVersion(records, id, []string{"a", "b"}[c.r.Intn(8)/7], n, []uint32{0})
			if c.r.Intn(3) == 0 {
				records = record.AppendTag(records, fmt.Sprint("t", id), id)
			}
		}
		c.check(fmt.Sprint("round ", i), written(t, 200, records))
	}
	c.expectArchives(500)
}
