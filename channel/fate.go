package channel

import (
	"slices"

	"beacon/api"
)

// mayBe tells whether a datagram may be in flight.
func mayBe(g api.Gram) bool {
	return areTwo(g.From, g.To) && len(g.Bytes) <= api.MaxGram && g.Wait >= 0 && g.Wait <= api.MaxSteps
}

func mayArrive(g api.Gram) bool { return g.Wait == 0 }

// areTwo tells whether these are the numbers of two routers.
func areTwo(a, b int) bool { return isNumber(a) && isNumber(b) && a != b }

// isNumber stands here too, since this layer calls no other one.
func isNumber(id int) bool { return id >= 1 && id <= api.MaxId }

// change does what a Fate does that lets none arrive.
func (f *Flight) change(x api.Fate) api.Errno {
	switch x.Kind {
	case api.FateDrop:
		return f.drop(x.I)
	case api.FateDouble:
		return f.double(x.I)
	case api.FateDelay:
		return f.delay(x.I, x.K)
	case api.FateSwap:
		return f.swap(x.I, x.K)
	case api.FateTick:
		f.tick()
		return api.OK
	case api.FateCut:
		return f.cut(x.I, x.K)
	}
	return api.ErrArg
}

func (f *Flight) drop(i int) api.Errno {
	if !f.has(i) {
		return api.ErrNone
	}
	f.remove(i)
	return api.OK
}

func (f *Flight) double(i int) api.Errno {
	if !f.has(i) {
		return api.ErrNone
	}
	return f.add(f.grams[i])
}

// delay holds the wait against what is left of the greatest one: a sum could run over.
func (f *Flight) delay(i, more int) api.Errno {
	if !f.has(i) {
		return api.ErrNone
	}
	if more < 0 || more > api.MaxSteps-f.grams[i].Wait {
		return api.ErrArg
	}
	f.grams[i].Wait += more
	return api.OK
}

func (f *Flight) swap(i, k int) api.Errno {
	if !f.has(i) || !f.has(k) {
		return api.ErrNone
	}
	f.grams[i], f.grams[k] = f.grams[k], f.grams[i]
	return api.OK
}

func (f *Flight) tick() {
	for i := range f.grams {
		if f.grams[i].Wait > 0 {
			f.grams[i].Wait--
		}
	}
}

func (f *Flight) cut(a, b int) api.Errno {
	if !areTwo(a, b) {
		return api.ErrArg
	}
	f.grams = slices.DeleteFunc(f.grams, func(g api.Gram) bool {
		return g.From == a && g.To == b || g.From == b && g.To == a
	})
	return api.OK
}

// has tells whether there is a place i.
func (f *Flight) has(i int) bool { return i >= 0 && i < len(f.grams) }

// add puts one that may be behind all others.
func (f *Flight) add(g api.Gram) api.Errno {
	if len(f.grams) >= api.MaxFlight {
		return api.ErrFull
	}
	f.grams = append(f.grams, g)
	return api.OK
}

// remove moves the fewer ones, those ahead or those behind: it is mostly the first that arrives, and many may be behind it.
func (f *Flight) remove(i int) {
	if i >= len(f.grams)/2 {
		f.grams = slices.Delete(f.grams, i, i+1)
		return
	}
	copy(f.grams[1:], f.grams[:i])
	f.grams[0] = api.Gram{} // so that its bytes are not kept
	f.grams = f.grams[1:]
}
