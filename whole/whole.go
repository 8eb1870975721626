// Package whole holds the tests of what the layers promise together; it has nothing else.
package whole
