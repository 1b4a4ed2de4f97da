// Package sample makes inputs for the tests of more than one package; the
// program does not use it.
package sample

// Texts returns all texts of up to most of the letters, the shorter ones first.
func Texts(letters string, most int) []string {
	all := []string{""}
	for from := 0; most > 0; most-- {
		last := all[from:]
		from = len(all)
		for _, s := range last {
			for i := range len(letters) {
				all = append(all, s+letters[i:i+1])
			}
		}
	}
	return all
}
