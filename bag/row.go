package bag

// firstRoom is what a row has room for at first.
const firstRoom = 4

// put puts a thing behind a row, unless it is full.
func put[T any](row chan *T, x *T) bool {
	select {
	case row <- x:
		return true
	default:
		return false
	}
}

// take takes the first thing of a row away, unless it is empty.
func take[T any](row chan *T) (*T, bool) {
	select {
	case x := <-row:
		return x, true
	default:
		return nil, false
	}
}

// wider answers a row with what is in that one, and room for as many more. How many there may be is asked at each Push anew, so a row can't be made for them ahead.
func wider[T any](row chan *T) chan *T {
	w := make(chan *T, 2*cap(row)+firstRoom)
	for x, ok := take(row); ok; x, ok = take(row) {
		put(w, x)
	}
	return w
}
