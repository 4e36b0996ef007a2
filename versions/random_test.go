package versions_test

import (
	"fmt"
	"maps"
	"math/rand"
	"slices"
	"testing"

	"versions/api"
	"versions/versions"
)

// clone is a model that is like this one.
func (m *model) clone() *model {
	c := &model{files: map[string][]kept{}, tags: maps.Clone(m.tags), stored: maps.Clone(m.stored), quota: m.quota}
	for path, list := range m.files {
		c.files[path] = slices.Clone(list)
	}
	return c
}

// P4 to P11: many calls, right and wrong ones, held against a model; now and then the archive is closed, or left, and opened again. On small devices there is no room now and then: then nothing changes, and all can be taken away.
func TestAgainstAModel(t *testing.T) {
	for seed := range int64(80) {
		r := rand.New(rand.NewSource(seed))
		sectors := []int{3000, 16, 33, 70}[seed%4]
		d := api.NewDevice(sectors)
		m := newModel()
		m.quota = []int{plenty, 5000, 900}[seed%3]
		a := opened(t, d, m.quota)
		for i := range 250 {
			what := fmt.Sprintf("seed %d, call %d", seed, i)
			switch r.Intn(16) {
			case 0:
				if r.Intn(2) == 0 {
					expectError(t, "Close", a.Close(), api.OK)
				}
				a = opened(t, d, m.quota)
				m.free()
			case 1:
				expectAnswer(t, what, a, m, op{call: "Collect"})
			default:
				o := randomOp(r, 40*(1+sectors/20))
				after := m.clone()
				want, errno := after.do(o)
				got, err := o.on(a)
				switch {
				case errno == api.OK && sectors < 3000 && api.Tell(err) == api.ErrFull && got == 0 && (o.call == "Put" || o.call == "Tag"):
				case got == want && api.Tell(err) == errno:
					m = after
				default:
					t.Fatalf("%s: %v: %d, %v, want %d, error %d", what, o, got, err, want, errno)
				}
			}
			expectSame(t, what, a, m)
		}
		m.free()
		expectSame(t, "a copy, opened", opened(t, d.Copy(), plenty), m)
	}
}

// P13: sessions one behind the other over one device, each with calls of all kinds, ended by a crash somewhere.
func TestCrashesAtRandom(t *testing.T) {
	for seed := range int64(40) {
		r := rand.New(rand.NewSource(seed))
		sectors := []int{16, 30, 70}[seed%3]
		d := api.NewDevice(sectors)
		m := newModel()
		for session := range 60 {
			a := opened(t, d, plenty)
			m.free()
			expectSame(t, "opened", a, m)
			d.Cut(r.Intn(1 + r.Intn(200)))
			states := untilPowerIsCut(t, a, m, r, sectors)
			d.Crash(r.Uint64() | r.Uint64()*uint64(r.Intn(2)))
			got := tell(t, opened(t, d, plenty))
			i := slices.IndexFunc(states, func(m *model) bool { return m.tell() == got })
			if i < 0 {
				t.Fatalf("seed %d, session %d: there is\n%.3000q\nwant one of %d states, the first\n%.3000q", seed, session, got, len(states), states[0].tell())
			}
			m = states[i]
		}
	}
}

// untilPowerIsCut makes calls until one answers ErrPower. It gives what may be there behind a crash.
func untilPowerIsCut(t *testing.T, a *versions.Archive, m *model, r *rand.Rand, sectors int) []*model {
	t.Helper()
	states := []*model{m}
	for {
		o := randomOp(r, 20*(1+sectors/10))
		if r.Intn(20) == 0 {
			o = op{call: "Collect"}
		}
		after := m.clone()
		want, errno := after.do(o)
		got, err := o.on(a)
		switch api.Tell(err) {
		case api.ErrPower:
			return append(states, after)
		case api.ErrFull:
			after = m
		case errno:
			if got != want {
				t.Fatalf("%v: %d, want %d", o, got, want)
			}
		default:
			t.Fatalf("%v: %d, %v, want %d, error %d", o, got, err, want, errno)
		}
		m = after
		if err == nil && !o.changes() {
			states = nil
		}
		states = append(states, m)
	}
}
