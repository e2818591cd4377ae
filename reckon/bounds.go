// Package reckon has what several layers calculate with: bounds of numbers, spans, sets, lists of a few of several things, the best of them, and places of a chain. It is no layer: it depends on api alone, and keeps nothing.
package reckon

// Bound is a number, and between which two others it must lie.
type Bound struct{ Number, Low, High int }

func (x Bound) holds() bool { return x.Low <= x.Number && x.Number <= x.High }

// Hold reports whether all bounds hold.
func Hold(bounds []Bound) bool {
	for _, x := range bounds {
		if !x.holds() {
			return false
		}
	}
	return true
}
