package tomb

import "nozzle/bitmap"

// At is a tomb whose numbers below the floor are closed, for tests at the end of the numbers: to close them one by one takes too long.
func At(span, floor int) *Tomb {
	b, _ := bitmap.New(span, floor)
	return &Tomb{record{*b}}
}
