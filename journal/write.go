package journal

import "versions/api"

// sectorsOf is how many sectors a change takes. One without bytes takes one too: by its stamp what the half had before is told from what comes behind it.
func sectorsOf(data []byte) int { return max((len(data)+room-1)/room, 1) }

// Append writes a change behind all others, and tells the place where it begins. So many sectors must be left free behind it.
func (j *Journal) Append(data []byte, leave int) (int, error) {
	begin := j.end
	if err := j.lay(begin, j.limit()-leave, data); err != nil {
		return 0, err
	}
	j.end += sectorsOf(data)
	return begin * room, nil
}

// Shrinks tells whether a change takes fewer sectors than all that are there together.
func (j *Journal) Shrinks(data []byte) bool {
	return sectorsOf(data) < j.end-j.begin(j.mark.half)
}

// Replace writes a change in the stead of all that are there, makes it safe, and tells the place where it begins. It is written to the other half: until it is safe, the others are there.
func (j *Journal) Replace(data []byte) (int, error) {
	half := halves - 1 - j.mark.half
	begin := j.begin(half)
	if err := j.lay(begin, begin+j.size(), data); err != nil {
		return 0, err
	}
	if err := j.settle(half, begin, begin+sectorsOf(data)); err != nil {
		return 0, err
	}
	return begin * room, nil
}

// lay writes a change to the sectors from begin on, if there is room ahead of the limit.
func (j *Journal) lay(begin, limit int, data []byte) error {
	if j.fault != nil {
		return j.fault
	}
	end := begin + sectorsOf(data)
	if end > limit {
		return api.ErrFull
	}
	if !j.begun {
		if err := j.settle(j.mark.half, j.fresh, j.end); err != nil {
			return err
		}
	}
	for at := begin; at < end; at++ {
		l := leaf{stamp: j.mark.turn, more: at < end-1}
		data = data[copy(l.data[:], data):]
		if err := j.write(at, l.sector(at)); err != nil {
			return err
		}
	}
	return nil
}

// Sync makes all changes safe.
func (j *Journal) Sync() error {
	if j.fault != nil {
		return j.fault
	}
	if j.mark.safe == j.end {
		return j.flush()
	}
	return j.settle(j.mark.half, j.fresh, j.end)
}

// settle makes the changes of a half safe, up to end, of which those from fresh on are new, and writes a mark that says so. The mark comes behind them, for it must not be there without them.
func (j *Journal) settle(half, fresh, end int) error {
	if err := j.verify(fresh, end); err != nil {
		return err
	}
	if err := j.flush(); err != nil {
		return err
	}
	m := mark{turn: j.mark.turn + 1, half: half, safe: end}
	if err := j.write(m.slot(), m.sector()); err != nil {
		return err
	}
	if err := j.flush(); err != nil {
		return err
	}
	j.mark, j.fresh, j.end, j.begun = m, end, end, true
	return nil
}

// verify reads again what this journal wrote since its newest mark: the next one must not say of what a crash took away meanwhile that it is safe.
func (j *Journal) verify(fresh, end int) error {
	for at := fresh; at < end; at++ {
		s, err := j.read(at)
		if err != nil {
			return err
		}
		if l, ok := leafOf(at, s); !ok || l.stamp != j.mark.turn {
			return j.note(located(api.ErrCorrupt, at))
		}
	}
	return nil
}
