package versions_test

import (
	"fmt"
	"math"
	"slices"
	"testing"

	"versions/api"
	"versions/versions"
)

// Texts, numbers and contents of each kind, right and wrong ones.
var (
	anyTexts   = []string{"a", "b/c", "x", "none", "", "A", "a//b", "a/", "/a", longPath, longPath + "x", "\xff", "ä", "a\x00"}
	anyNumbers = []int{0, 1, 2, 3, -1, math.MinInt, math.MaxInt, math.MaxInt32, math.MaxInt32 + 1}
	anySizes   = []int{0, 1, 90, 700, api.MaxContent, api.MaxContent + 1}
)

// quiz makes each call with each kind of argument: it must end, answer no error that it has no reason for, and beside an error nothing else.
type quiz struct {
	t      testing.TB
	what   string
	closed bool // whether the archive is
}

// expect holds an answer against the errors that the call may answer, ErrCorrupt apart; zero tells whether it answered nothing else.
func (q quiz) expect(call string, args []any, zero bool, err error, may ...api.Errno) {
	q.t.Helper()
	may = append(may, api.OK, api.ErrCorrupt)
	if q.closed {
		may = []api.Errno{api.ErrClosed}
	}
	if err != nil && !zero || !slices.Contains(may, api.Tell(err)) {
		q.t.Fatalf("%s: %s%.60q: %v; is there nothing beside it: %t", q.what, call, fmt.Sprint(args...), err, zero)
	}
}

func args(a ...any) []any { return a }

// reads makes the calls that change nothing.
func (q quiz) reads(a *versions.Archive) {
	q.t.Helper()
	for _, path := range anyTexts {
		numbers, err := a.Versions(path)
		q.expect("Versions", args(path), len(numbers) == 0, err, api.ErrPath, api.ErrMissing)
		entries, err := a.List(path)
		q.expect("List", args(path), len(entries) == 0, err)
		for _, n := range anyNumbers {
			b, err := a.Get(path, n)
			q.expect("Get", args(path, n), len(b) == 0, err, api.ErrPath, api.ErrMissing)
			for i, at := range anyNumbers {
				count := anyNumbers[(i+n&3)%len(anyNumbers)]
				b, err := a.ReadAt(path, n, at, count)
				q.expect("ReadAt", args(path, n, at, count), len(b) == 0, err, api.ErrPath, api.ErrMissing, api.ErrRange)
			}
		}
	}
	pins, err := a.Tags()
	q.expect("Tags", nil, len(pins) == 0, err)
	stored, err := a.Stored()
	q.expect("Stored", nil, stored == api.Stored{}, err)
	q.expect("Sync", nil, true, a.Sync())
}

// put puts a version: its number is the latest one's and 1.
func (q quiz) put(a *versions.Archive, path string, content []byte) {
	q.t.Helper()
	latest := 0
	if numbers, _ := a.Versions(path); len(numbers) > 0 {
		latest = numbers[len(numbers)-1]
	}
	n, err := a.Put(path, content)
	q.expect("Put", args(path, len(content)), n == 0, err, api.ErrPath, api.ErrSize, api.ErrQuota, api.ErrFull)
	if err == nil && (n <= latest || n != latest+1) {
		q.t.Fatalf("%s: Put(%q) behind version %d: %d", q.what, path, latest, n)
	}
}

// changes makes the others, but Close: those first that add something.
func (q quiz) changes(a *versions.Archive) {
	q.t.Helper()
	for i, path := range anyTexts {
		for _, size := range anySizes {
			q.put(a, path, noise(uint32(i), size))
		}
		for j, n := range anyNumbers {
			name := anyTexts[(i+j)%len(anyTexts)]
			q.expect("Tag", args(name, path, n), true, a.Tag(name, path, n), api.ErrPath, api.ErrMissing, api.ErrExists, api.ErrFull)
			q.expect("Delete", args(path, n), true, a.Delete(path, n), api.ErrPath, api.ErrMissing, api.ErrPinned, api.ErrFull)
		}
	}
	q.expect("Collect", nil, true, a.Collect(), api.ErrFull)
	for i, path := range anyTexts {
		q.put(a, path, noise(uint32(i), 90))
		for _, keep := range anyNumbers {
			n, err := a.Prune(path, keep)
			q.expect("Prune", args(path, keep), n == 0, err, api.ErrPath, api.ErrMissing, api.ErrFull)
		}
		q.expect("Untag", args(path), true, a.Untag(path), api.ErrPath, api.ErrMissing, api.ErrFull)
	}
	q.expect("Collect", nil, true, a.Collect(), api.ErrFull)
}

// all makes all calls, and again behind an Open over what they left, which is all that was there.
func (q quiz) all(a *versions.Archive, d *api.Device) {
	q.t.Helper()
	for range 2 {
		q.reads(a)
		q.changes(a)
		q.reads(a)
		was := tell(q.t, a)
		closed := a
		a = reopened(q.t, a, d, plenty)
		if got := tell(q.t, a); got != was {
			q.t.Fatalf("%s: opened again, there is\n%.3000q\nwant\n%.3000q", q.what, got, was)
		}
		after := quiz{q.t, q.what + ", closed", true}
		after.reads(closed)
		after.changes(closed)
		after.expect("Close", nil, true, closed.Close())
	}
}

// P1: each call with each kind of argument, over an empty device, one that was used, and one that is full; the smallest, and a great one.
func TestAnyArguments(t *testing.T) {
	for _, sectors := range []int{api.MinSectors, 28, 1000, 70000} {
		for what, fill := range map[string]func(a *versions.Archive){
			"empty": func(a *versions.Archive) {},
			"used": func(a *versions.Archive) {
				if _, _, err := play(a, newModel(), shortScript()); err != nil {
					t.Fatal(err)
				}
			},
			"full": func(a *versions.Archive) {
				if sectors < 1000 {
					filledUp(t, a)
				}
			},
		} {
			d := api.NewDevice(sectors)
			a := opened(t, d, plenty)
			fill(a)
			quiz{t: t, what: fmt.Sprintf("%s, %d sectors", what, sectors)}.all(a, d)
		}
	}
}
