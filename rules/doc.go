// Package rules has only tests: of what holds for the tree as a whole, whichever layer it is.
package rules
